import Derived.Deep.DeepCutAuto
import Derived.Deep.RegionHeld3
import Derived.Test.YtldnponbkhgijaaHP00
import Derived.Deep.RegionLaw
import Derived.Lib.SliceRun
section
namespace Go.Proofs.Ytldnponbkhgijaa
open Go.ChangeShapes Go.WideShapes Go.ChangeAt Go.RowKit
set_option linter.unusedVariables false
set_option linter.unusedSimpArgs false

def Hd.Tells2 (F : Nat) (caps : Array Value) (ah : Hd → Hd → Bool) (B : Nat) (w : World) : Prop :=
  ∀ (a b : Hd) (W : World), Below B w W → Calls Try.prog F (#[a.val, b.val] ++ caps) W fun e w' => e = .returned (.bool (ah a b)) ∧ Below W.heap.size W w'
theorem Hd.Tells2.below {F : Nat} {caps : Array Value} {ah : Hd → Hd → Bool} {B : Nat} {w w1 : World} (h : Hd.Tells2 F caps ah B w) (hb : Below B w w1) {C : Nat} (hC : B ≤ C) : Hd.Tells2 F caps ah C w1 :=
  fun a b W hW => h a b W (hb.trans (hW.mono hC))
structure Hd.Bx (w : World) (b : Nat) (g : Hd) : Prop where
  lt : b < w.heap.size
  at_ : g.at w b 0
  hp : w.heap[b]? = some (.cells g.cells.toArray 169 (0, 0))
theorem Hd.Bx.new (w : World) (g : Hd) : Hd.Bx (w.alloc (.cells g.cells.toArray 169)) w.heap.size g := by
  have h := heap_alloc_new w (.cells g.cells.toArray 169 (0, 0))
  refine ⟨by simp, Hd.at_of fun j u hu => ?_, h⟩
  rw [Nat.zero_add, cell_of_row _ _ j g.cells.toArray 169 (0, 0) h]
  simpa using hu
theorem Hd.Bx.below {w w' : World} {b : Nat} {g : Hd} (h : Hd.Bx w b g) (hb : Below w.heap.size w w') : Hd.Bx w' b g :=
  ⟨Nat.lt_of_lt_of_le h.lt hb.size, Hd.at_keep h.at_ fun i => hb.cell (p := ⟨b, i, none⟩) h.lt, (hb.block b h.lt).trans h.hp⟩
theorem Hd.Bx.sl {w : World} {b : Nat} {g : Hd} (h : Hd.Bx w b g) : Sl w (some ⟨b, 0, none⟩) g.cells := by
  intro _
  refine ⟨b, 0, rfl, fun j u hu => ?_⟩
  rw [Nat.zero_add, cell_of_row _ _ j g.cells.toArray 169 (0, 0) h.hp]
  simpa using hu
theorem Hd.Bx.got {w : World} {b : Nat} {g : Hd} (h : Hd.Bx w b g) : w.cell? ⟨b, 0, none⟩ = some (.int .i64 g.ac) ∧ w.cell? ⟨b, 1, none⟩ = some (.int .i64 g.cl) ∧ w.cell? ⟨b, 2, none⟩ = some (.slice g.lt g.ltL g.ltC) := by
  have := h.at_
  unfold Hd.at at this
  simpa only [Nat.zero_add] using this
set_option maxHeartbeats 1000000 in
set_option maxRecDepth 100000 in
theorem rising_hd (A : Option Addr) (cap : Nat) (l : List Hd) (F : Nat) (caps : Array Value) (ah : Hd → Hd → Bool) (w : World) (hl : l.length ≤ 1000000) (hs : Sl w A (rc Hd.cells l)) (hF : Ent Try.prog F) (hp : Hd.Tells2 F caps ah w.heap.size w) :
    Calls Try.prog 122 #[.slice A l.length cap, .func (.func F) #[] caps] w fun e w' => e = .returned (.bool (risingL ah l)) ∧ Below w.heap.size w w' := by
  go_enter Try.func122, Try.ntmps122
  go_wp2_with fail
  go_loopw [5] (fun i wr => ∃ k : Nat, i = .int .i64 ((k : Int) + 1) ∧ (k ≤ l.length) ∧ (∀ j, (hj : j + 1 < l.length) → j < k → ah (l[j]'(by omega)) l[j + 1] = true) ∧ Below w.heap.size w wr) (fun i _ => l.length + 1 - (intOf i).toNat)
  case atStart => exact ⟨0, by first | rfl | go_num, by omega, fun j hj h => absurd h (by omega), Below.refl _ _⟩
  case round =>
    obtain ⟨k, rfl, hk, hno, hB⟩ := hrel
    by_cases hlt2 : k + 1 < l.length
    · have hkl : k < l.length := by omega
      obtain ⟨b, o, rfl, hbw, hg⟩ := hs.hd hkl
      obtain ⟨b', o', e, hbw', hg'⟩ := hs.hd hlt2
      injection e with e
      injection e with e1 e2 e3
      subst e1; subst e2
      have hg1 : l[k].at wr b (o + k * 3) := Hd.at_keep (w := w) hg fun i => hB.cell (p := ⟨b, i, none⟩) hbw
      have hg2 : l[k + 1].at wr b (o + (k + 1) * 3) := Hd.at_keep (w := w) hg' fun i => hB.cell (p := ⟨b, i, none⟩) hbw
      have HG1 := Lib.hid hg1
      have HG2 := Lib.hid hg2
      have hbr : b < wr.heap.size := Nat.lt_of_lt_of_le hbw hB.size
      have HK : Hid (∀ V, Below wr.heap.size wr V → l[k].at V b (o + k * 3) ∧ l[k + 1].at V b (o + (k + 1) * 3)) := Lib.hid fun V hV =>
        ⟨Hd.at_keep (w := wr) HG1.out fun i => hV.cell (p := ⟨b, i, none⟩) hbr, Hd.at_keep (w := wr) HG2.out fun i => hV.cell (p := ⟨b, i, none⟩) hbr⟩
      have HP : Hid (∀ V, Below wr.heap.size wr V → _) := Lib.hid fun V hV => hp l[k] l[k + 1] V (since_step hB hV)
      obtain ⟨q, hq⟩ : ∃ q, ah l[k] l[k + 1] = q := ⟨_, rfl⟩
      have HXq : Hid (if q then (∀ j, (hj : j + 1 < l.length) → j < k + 1 → ah (l[j]'(by omega)) l[j + 1] = true) else risingL ah l = false) := Lib.hid (by
        cases q with
        | true =>
          intro j hj hjk
          rcases Nat.lt_or_ge j k with h | h
          · exact hno j hj h
          · obtain rfl : j = k := by omega
            exact hq
        | false => exact risingL_false hlt2 hq)
      have HQ := Lib.hid hq
      clear hno hp hg hg' hg1 hg2 HG1 HG2 hq
      generalize l[k] = ga at HK HP HQ
      generalize l[k + 1] = gb at HK HP HQ
      have hw0 : IntKind.i64.wrap (k : Int) = (k : Int) := by rw [IntKind.wrap_i64]; omega
      have hw2 : IntKind.i64.wrap ((k : Int) + 1 + 1) = (k : Int) + 1 + 1 := by rw [IntKind.wrap_i64]; omega
      have hn0 : (0 : Int) ≤ (k : Int) := by omega
      have hn1 : (0 : Int) ≤ (k : Int) + 1 := by omega
      have htn : ((k : Int) + 1).toNat = k + 1 := by omega
      have hlt3 : (k : Int) + 1 < (l.length : Int) := by omega
      clear hs hbw hbw'
      go_wp2_with fail
      refine wp_region_held_drew (S := (fun V => Below wr.heap.size wr V)) (by kernel_rfl) (by exact (Below.refl _ _).drew) (fun hHeld => ?_)
      refine wpAnyH_take (i := 0) (oi := { dst := some 12, op := _, type := _, pos := _, after := _, guard := _ }) (v := ?_) rfl (by kernel_rfl) (by kernel_rfl) (by kernel_rfl) (fun _ _ _ h => h) (Or.inl ⟨by rfl, ?_⟩) hHeld ?_
      rotate_left
      · (intro w hSw; obtain ⟨⟨g0, g1, g2⟩, h0, h1, h2⟩ := HK.out _ hSw; go_simp <;> with_reducible rfl)
      try simp only [Act.put, List.setIfInBounds_toArray, List.set_cons_zero, List.set_cons_succ]
      refine wpAnyH_take (i := 1) (oi := { dst := some 13, op := _, type := _, pos := _, after := _, guard := _ }) (v := ?_) rfl (by kernel_rfl) (by kernel_rfl) (by kernel_rfl) (fun _ _ _ h => h) (Or.inl ⟨by rfl, ?_⟩) hHeld ?_
      rotate_left
      · (intro w hSw; obtain ⟨⟨g0, g1, g2⟩, h0, h1, h2⟩ := HK.out _ hSw; go_simp <;> with_reducible rfl)
      try simp only [Act.put, List.setIfInBounds_toArray, List.set_cons_zero, List.set_cons_succ]
      refine wpAnyH_take (i := 2) (oi := { dst := some 14, op := _, type := _, pos := _, after := _, guard := _ }) (v := ?_) rfl (by kernel_rfl) (by kernel_rfl) (by kernel_rfl) (fun _ _ _ h => h) (Or.inl ⟨by rfl, ?_⟩) hHeld ?_
      rotate_left
      · (intro w hSw; obtain ⟨⟨g0, g1, g2⟩, h0, h1, h2⟩ := HK.out _ hSw; go_simp <;> with_reducible rfl)
      try simp only [Act.put, List.setIfInBounds_toArray, List.set_cons_zero, List.set_cons_succ]
      refine wpAnyH_take (i := 3) (oi := { dst := some 15, op := _, type := _, pos := _, after := _, guard := _ }) (v := ?_) rfl (by kernel_rfl) (by kernel_rfl) (by kernel_rfl) (fun _ _ _ h => h) (Or.inl ⟨by rfl, ?_⟩) hHeld ?_
      rotate_left
      · (intro w hSw; obtain ⟨⟨g0, g1, g2⟩, h0, h1, h2⟩ := HK.out _ hSw; go_simp <;> with_reducible rfl)
      try simp only [Act.put, List.setIfInBounds_toArray, List.set_cons_zero, List.set_cons_succ]
      refine wpAnyH_take (i := 4) (oi := { dst := some 16, op := _, type := _, pos := _, after := _, guard := _ }) (v := ?_) rfl (by kernel_rfl) (by kernel_rfl) (by kernel_rfl) (fun _ _ _ h => h) (Or.inl ⟨by rfl, ?_⟩) hHeld ?_
      rotate_left
      · (intro w hSw; obtain ⟨⟨g0, g1, g2⟩, h0, h1, h2⟩ := HK.out _ hSw; go_simp <;> with_reducible rfl)
      try simp only [Act.put, List.setIfInBounds_toArray, List.set_cons_zero, List.set_cons_succ]
      refine wpAnyH_take (i := 5) (oi := { dst := some 17, op := _, type := _, pos := _, after := _, guard := _ }) (v := ?_) rfl (by kernel_rfl) (by kernel_rfl) (by kernel_rfl) (fun _ _ _ h => h) (Or.inl ⟨by rfl, ?_⟩) hHeld ?_
      rotate_left
      · (intro w hSw; obtain ⟨⟨g0, g1, g2⟩, h0, h1, h2⟩ := HK.out _ hSw; go_simp <;> with_reducible rfl)
      try simp only [Act.put, List.setIfInBounds_toArray, List.set_cons_zero, List.set_cons_succ]
      refine wpAnyH_take (i := 6) (oi := { dst := some 18, op := _, type := _, pos := _, after := _, guard := _ }) (v := ?_) rfl (by kernel_rfl) (by kernel_rfl) (by kernel_rfl) (fun _ _ _ h => h) (Or.inl ⟨by rfl, ?_⟩) hHeld ?_
      rotate_left
      · (intro w hSw; obtain ⟨⟨g0, g1, g2⟩, h0, h1, h2⟩ := HK.out _ hSw; go_simp <;> with_reducible rfl)
      try simp only [Act.put, List.setIfInBounds_toArray, List.set_cons_zero, List.set_cons_succ]
      refine wpAnyH_take (i := 7) (oi := { dst := some 19, op := _, type := _, pos := _, after := _, guard := _ }) (v := ?_) rfl (by kernel_rfl) (by kernel_rfl) (by kernel_rfl) (fun _ _ _ h => h) (Or.inl ⟨by rfl, ?_⟩) hHeld ?_
      rotate_left
      · (intro w hSw; obtain ⟨⟨g0, g1, g2⟩, h0, h1, h2⟩ := HK.out _ hSw; go_simp <;> with_reducible rfl)
      try simp only [Act.put, List.setIfInBounds_toArray, List.set_cons_zero, List.set_cons_succ]
      refine wpAnyH_take (i := 8) (oi := { dst := some 20, op := _, type := _, pos := _, after := _, guard := _ }) (v := ?_) rfl (by kernel_rfl) (by kernel_rfl) (by kernel_rfl) (fun _ _ _ h => h) (Or.inl ⟨by rfl, ?_⟩) hHeld ?_
      rotate_left
      · (intro w hSw; obtain ⟨⟨g0, g1, g2⟩, h0, h1, h2⟩ := HK.out _ hSw; go_simp <;> with_reducible rfl)
      try simp only [Act.put, List.setIfInBounds_toArray, List.set_cons_zero, List.set_cons_succ]
      refine wpAnyH_take (i := 9) (oi := { dst := some 21, op := _, type := _, pos := _, after := _, guard := _ }) (v := ?_) rfl (by kernel_rfl) (by kernel_rfl) (by kernel_rfl) (fun _ _ _ h => h) (Or.inl ⟨by rfl, ?_⟩) hHeld ?_
      rotate_left
      · (intro w hSw; obtain ⟨⟨g0, g1, g2⟩, h0, h1, h2⟩ := HK.out _ hSw; go_simp <;> with_reducible rfl)
      try simp only [Act.put, List.setIfInBounds_toArray, List.set_cons_zero, List.set_cons_succ]
      refine wpAnyH_ready (rs := [10]) (by kernel_rfl) (by simp) ?_
      refine AllReadyH.cons (o := { dst := some 22, op := _, type := _, pos := _, after := _, guard := _ }) rfl (fun K hK => ?_) AllReadyH.nil
      go_simp
      rw [hF, Oper.upon_enter]
      refine (HP.out _ hHeld).mono ?_
      rintro e u1 ⟨rfl, hk1⟩
      have hKeep := since_step hHeld hk1
      rw [HQ.out]
      go_wp2_with fail
      refine hK.out _ _ (by (try dsimp only); exact hKeep) (fun hHeld => ?_)
      clear hK K hKeep
      try simp only [Act.put, List.setIfInBounds_toArray, List.set_cons_zero, List.set_cons_succ]
      refine wpAnyH_take (i := 11) (oi := { dst := some 23, op := _, type := _, pos := _, after := _, guard := _ }) (v := ?_) rfl (by kernel_rfl) (by kernel_rfl) (by kernel_rfl) (fun _ _ _ h => h) (Or.inl ⟨by rfl, ?_⟩) hHeld ?_
      rotate_left
      · (intro w hSw; obtain ⟨⟨g0, g1, g2⟩, h0, h1, h2⟩ := HK.out _ hSw; go_simp <;> with_reducible rfl)
      try simp only [Act.put, List.setIfInBounds_toArray, List.set_cons_zero, List.set_cons_succ]
      refine wpAnyH_done (by kernel_rfl) ?_ _
      have hB2 := since_step hB hHeld
      cases q with
      | true =>
        go_wp2_with fail
        go_roundw
        case rel => exact ⟨k + 1, by go_num, by omega, by simpa using HXq.out, hB2⟩
        case measure => simp [intOf]; omega
      | false =>
        have hr : risingL ah l = false := by simpa using HXq.out
        have HR := Lib.hid hr
        clear hr
        go_wp2_with fail
        go_ret
        exact ⟨retB HR.out.symm, hB2⟩
    · have hrt : risingL ah l = true := (risingL_iff ah l).2 fun j hj => hno j hj (by omega)
      have HR := Lib.hid hrt
      have hge : ¬ ((k : Int) + 1 < (l.length : Int)) := by omega
      clear hno hrt
      go_wp2_with fail
      go_ret
      exact ⟨retB HR.out.symm, hB⟩
set_option maxHeartbeats 1000000 in
set_option maxRecDepth 100000 in
theorem put1_hd (AH : Nat) (caps : Array Value) (ah : Hd → Hd → Bool) (x y : Hd) (ba bx : Nat) (w : World) (hF : Ent Try.prog AH) (hp : Hd.Tells2 AH caps ah w.heap.size w) (hx : Hd.Bx w bx x) (ha : w.cell? ⟨ba, 0, none⟩ = some (.func (.func AH) #[] caps)) :
    Calls Try.prog 188 #[y.val, .pointer (some ⟨ba, 0, none⟩), .pointer (some ⟨bx, 0, none⟩)] w fun e w' => e = .returned (.bool (!ah y x)) ∧ Below w.heap.size w w' := by
  have hlt := World.block_lt_of_cell? _ _ ha
  obtain ⟨g0, g1, g2⟩ := hx.got
  have hlx := hx.lt
  have hB0 := since_alloc (Below.refl w.heap.size w) (.cells y.cells.toArray 169)
  have HP := Lib.hid (hp y x _ hB0)
  clear hp hx
  unfold Hd.val
  go_enter Try.func188, Try.ntmps188
  go_wp2_with fail
  rw [hF, Oper.upon_enter]
  refine HP.out.mono ?_
  rintro e w1 ⟨rfl, hb1⟩
  have hB1 := since_step hB0 hb1
  clear hb1
  obtain ⟨q, hq⟩ : ∃ q, ah y x = q := ⟨_, rfl⟩
  have HQ := Lib.hid hq
  rw [HQ.out]
  clear hq
  cases q <;> (go_wp2_with fail; go_ret; refine ⟨retB ?_, hB1⟩; rw [HQ.out]; rfl)
theorem tells_put1_hd (AH : Nat) (caps : Array Value) (ah : Hd → Hd → Bool) (x : Hd) (ba bx : Nat) (w : World) (hF : Ent Try.prog AH) (hp : Hd.Tells2 AH caps ah w.heap.size w) (hx : Hd.Bx w bx x) (ha : w.cell? ⟨ba, 0, none⟩ = some (.func (.func AH) #[] caps)) :
    Hd.Tells 188 #[.pointer (some ⟨ba, 0, none⟩), .pointer (some ⟨bx, 0, none⟩)] (fun y => !ah y x) w.heap.size w := by
  intro y W hW
  exact put1_hd AH caps ah x y ba bx W hF (hp.below hW hW.size) (hx.below hW) ((hW.cell (p := ⟨ba, 0, none⟩) (World.block_lt_of_cell? _ _ ha)).trans ha)
theorem ent_put1_hd : Ent Try.prog 188 := Ent.of (by kernel_rfl)
set_option maxHeartbeats 4000000 in
set_option maxRecDepth 100000 in
theorem put_hd (A : Option Addr) (cap : Nat) (l : List Hd) (x : Hd) (AH : Nat) (caps : Array Value) (ah : Hd → Hd → Bool) (w : World) (hl : l.length ≤ 1000000) (hs : Sl w A (rc Hd.cells l)) (hF : Ent Try.prog AH) (hp : Hd.Tells2 AH caps ah w.heap.size w) :
    Calls Try.prog 137 #[.slice A l.length cap, x.val, .func (.func AH) #[] caps] w fun e w' =>
      (∃ A' c', e = .returned (.slice A' (putL ah l x).length c') ∧ w'.ownsRow w.heap.size 169 3 (.slice A' (putL ah l x).length c') (putL ah l x).length (rc Hd.cells (putL ah l x))) ∧ Below w.heap.size w w' := by
  have hB0 : Below w.heap.size w ((w.alloc (.cells #[.int .i64 x.ac, .int .i64 x.cl, .slice x.lt x.ltL x.ltC] 169)).alloc (.cells #[.func (.func AH) #[] caps] 173)) := since_alloc (since_alloc (Below.refl _ _) _) _
  have hx0 : Hd.Bx ((w.alloc (.cells #[.int .i64 x.ac, .int .i64 x.cl, .slice x.lt x.ltL x.ltC] 169)).alloc (.cells #[.func (.func AH) #[] caps] 173)) w.heap.size x := (Hd.Bx.new w x).below ((Below.refl _ _).alloc (Nat.le_refl _) (.cells #[.func (.func AH) #[] caps] 173))
  have ha0 : ((w.alloc (.cells #[.int .i64 x.ac, .int .i64 x.cl, .slice x.lt x.ltL x.ltC] 169)).alloc (.cells #[.func (.func AH) #[] caps] 173)).cell? ⟨w.heap.size + 1, 0, none⟩ = some (.func (.func AH) #[] caps) := by
    have := World.cell?_alloc_new (w.alloc (.cells #[.int .i64 x.ac, .int .i64 x.cl, .slice x.lt x.ltL x.ltC] 169)) #[.func (.func AH) #[] caps] 173 0
    rw [World.size_alloc] at this
    rw [this]; rfl
  have hs0 := (hs.alloc (.cells #[.int .i64 x.ac, .int .i64 x.cl, .slice x.lt x.ltL x.ltC] 169)).alloc (.cells #[.func (.func AH) #[] caps] 173)
  unfold Hd.val
  go_enter Try.func137, Try.ntmps137
  go_upto_region 1 with fail
  have hx1 : w.heap.size + 1 < ((w.alloc (.cells #[.int .i64 x.ac, .int .i64 x.cl, .slice x.lt x.ltL x.ltC] 169)).alloc (.cells #[.func (.func AH) #[] caps] 173)).heap.size := by simp
  have hp0 := hp.below hB0 (C := ((w.alloc (.cells #[.int .i64 x.ac, .int .i64 x.cl, .slice x.lt x.ltL x.ltC] 169)).alloc (.cells #[.func (.func AH) #[] caps] 173)).heap.size) (by simp; omega)
  generalize hWW : ((w.alloc (.cells #[.int .i64 x.ac, .int .i64 x.cl, .slice x.lt x.ltL x.ltC] 169)).alloc (.cells #[.func (.func AH) #[] caps] 173)) = W0 at *
  clear hWW
  have HIX := Lib.hid (index_hd A cap l 188 #[.pointer (some ⟨w.heap.size + 1, 0, none⟩), .pointer (some ⟨w.heap.size, 0, none⟩)] (fun y => !ah y x) W0 hl hs0 ent_put1_hd (tells_put1_hd AH caps ah x (w.heap.size + 1) w.heap.size W0 hF hp0 hx0 ha0))
  go_wp2_with fail
  refine HIX.out.mono ?_
  rintro e W ⟨rfl, hb1⟩
  have hx2 := hx0.below hb1
  have ha2 := (hb1.cell (p := ⟨w.heap.size + 1, 0, none⟩) hx1).trans ha0
  have hs2 := hs0.below hb1
  have hp2 := hp0.below hb1 (Nat.le_trans (Nat.le_refl _) hb1.size)
  have hB2 := since_step hB0 hb1
  have hx3 : w.heap.size + 1 < W.heap.size := Nat.lt_of_lt_of_le hx1 hb1.size
  clear hp0 hs0 ha0 hx0 hx1 hb1 HIX hs hp hB0
  have HXB : Hid (∀ V, Below W.heap.size W V → Hd.Bx V w.heap.size x) := Lib.hid fun V hV => hx2.below hV
  have HAB : Hid (∀ V, Below W.heap.size W V → V.cell? ⟨w.heap.size + 1, 0, none⟩ = some (.func (.func AH) #[] caps)) := Lib.hid fun V hV => (hV.cell (p := ⟨w.heap.size + 1, 0, none⟩) hx3).trans ha2
  have HSB : Hid (∀ V, Below W.heap.size W V → Sl V A (rc Hd.cells l)) := Lib.hid fun V hV => hs2.below hV
  have HPB : Hid (∀ V, Below W.heap.size W V → ∀ a b, Calls Try.prog AH (#[a.val, b.val] ++ caps) V fun e w' => e = .returned (.bool (ah a b)) ∧ Below V.heap.size V w') := Lib.hid fun V hV a b => hp2 a b V hV
  have hBW : w.heap.size ≤ W.heap.size := by omega
  rcases atL_cases (fun y => !ah y x) l with ⟨h0, hno⟩ | ⟨k, hk, h0, hpk, hno⟩
  · rw [h0]
    have HPL := Lib.hid (putL_none (ah := ah) (x := x) hno)
    clear h0 hno hx2 ha2 hs2 hp2
    go_wp2_with fail
    refine wp_region_held_drew (S := (fun V => Below W.heap.size W V)) (by kernel_rfl) (by exact (Below.refl _ _).drew) (fun hHeld => ?_)
    refine wpAnyH_take (i := 0) (oi := { dst := some 13, op := _, type := _, pos := _, after := _, guard := _ }) (v := ?_) rfl (by kernel_rfl) (by kernel_rfl) (by kernel_rfl) (fun _ _ _ h => h) (Or.inl ⟨by rfl, ?_⟩) hHeld ?_
    rotate_left
    · (intro w hSw; obtain ⟨g0, g1, g2⟩ := (HXB.out _ hSw).got; have ha9 := HAB.out _ hSw; go_simp <;> with_reducible rfl)
    try simp only [Act.put, List.setIfInBounds_toArray, List.set_cons_zero, List.set_cons_succ]
    refine wpAnyH_take (i := 2) (oi := { dst := some 15, op := _, type := _, pos := _, after := _, guard := _ }) (v := ?_) rfl (by kernel_rfl) (by kernel_rfl) (by kernel_rfl) (fun _ _ _ h => h) (Or.inl ⟨by rfl, ?_⟩) hHeld ?_
    rotate_left
    · (intro w hSw; obtain ⟨g0, g1, g2⟩ := (HXB.out _ hSw).got; have ha9 := HAB.out _ hSw; go_simp <;> with_reducible rfl)
    try simp only [Act.put, List.setIfInBounds_toArray, List.set_cons_zero, List.set_cons_succ]
    refine wpAnyH_ready (rs := [1, 3]) (by kernel_rfl) (by simp) ?_
    refine AllReadyH.cons (o := { dst := some 14, op := _, type := _, pos := _, after := _, guard := _ }) rfl (fun K hK => ?_) (AllReadyH.cons (o := { dst := some 16, op := _, type := _, pos := _, after := _, guard := _ }) rfl (fun K hK => ?_) AllReadyH.nil)
    · go_simp
      refine (clone_hd A cap l _ hl (HSB.out _ hHeld)).mono ?_
      rintro e u1 ⟨⟨A1, c1, rfl, hown0⟩, hk1⟩
      have hKeep := since_step hHeld hk1
      have hown1 := own_base hown0 hHeld.size
      go_wp2_with fail
      refine hK.out _ _ (by (try dsimp only); exact hKeep) (fun hHeld => ?_)
      clear hK K hKeep
      try simp only [Act.put, List.setIfInBounds_toArray, List.set_cons_zero, List.set_cons_succ]
      refine wpAnyH_ready (rs := [3]) (by kernel_rfl) (by simp) ?_
      refine AllReadyH.cons (o := { dst := some 16, op := _, type := _, pos := _, after := _, guard := _ }) rfl (fun K hK => ?_) AllReadyH.nil
      have hHd := hHeld
      obtain ⟨g0, g1, g2⟩ := (HXB.out _ hHd).got; have ha9 := HAB.out _ hHd
      have hA := since_alloc hHeld (.cells x.cells.toArray 169)
      have hKeep := hA
      have HV := Hd.Bx.new u1 x
      have hown1 := hown1.alloc (.cells x.cells.toArray 169)
      skip
      go_simp
      refine hK.out _ _ (by (try dsimp only); exact hKeep) (fun hHeld => ?_)
      clear hK K hKeep
      try simp only [Act.put, List.setIfInBounds_toArray, List.set_cons_zero, List.set_cons_succ]
      refine wpAnyH_ready (rs := [4]) (by kernel_rfl) (by simp) ?_
      refine AllReadyH.cons (o := { dst := some 17, op := _, type := _, pos := _, after := _, guard := _ }) rfl (fun K hK => ?_) AllReadyH.nil
      refine step_app rfl (.tmp 14) (.tmp 16) rfl EHd (n := l.length) (m := 1) (c := c1) (d := 1) (A := A1) (B := some ⟨u1.heap.size, 0, none⟩) (by simp [Act.eval, Act.put]; done) (by simp [Act.eval, Act.put]; done) hown1 (by rw [Hd.len]) HV.sl (Hd.one x) (by unfold maxLen; omega) (by omega) hHeld.size ?_
      intro A2 c2 u2 hown2 hg2 hb2
      have hKeep := since_step (Below.refl W.heap.size W) (hHeld.trans hb2)
      refine hK.out _ _ (by (try dsimp only); exact hKeep) (fun hHeld => ?_)
      clear hK K hKeep
      try simp only [Act.put, List.setIfInBounds_toArray, List.set_cons_zero, List.set_cons_succ]
      refine wpAnyH_take (i := 5) (oi := { dst := some 6, op := _, type := _, pos := _, after := _, guard := _ }) (v := ?_) rfl (by kernel_rfl) (by kernel_rfl) (by kernel_rfl) (fun _ _ _ h => h) (Or.inl ⟨by rfl, ?_⟩) hHeld ?_
      rotate_left
      · (intro w hSw; obtain ⟨g0, g1, g2⟩ := (HXB.out _ hSw).got; have ha9 := HAB.out _ hSw; go_simp <;> with_reducible rfl)
      try simp only [Act.put, List.setIfInBounds_toArray, List.set_cons_zero, List.set_cons_succ]
      refine wpAnyH_done (by kernel_rfl) ?_ _
      have hB3 := hB2.trans (hHeld.mono hBW)
      go_wp2_with fail
      go_ret
      refine ⟨⟨A2, c2, ?_, ?_⟩, hB3⟩
      · rw [HPL.out, List.length_append]; rfl
      · rw [HPL.out, List.length_append, rc_append]
        have := own_base hown2 hBW
        simpa [rc] using this
    · have hHd := hHeld
      obtain ⟨g0, g1, g2⟩ := (HXB.out _ hHd).got; have ha9 := HAB.out _ hHd
      have hA := since_alloc hHeld (.cells x.cells.toArray 169)
      have hKeep := hA
      have HV := Hd.Bx.new W.drew x
      skip
      go_simp
      refine hK.out _ _ (by (try dsimp only); exact hKeep) (fun hHeld => ?_)
      clear hK K hKeep
      try simp only [Act.put, List.setIfInBounds_toArray, List.set_cons_zero, List.set_cons_succ]
      refine wpAnyH_ready (rs := [1]) (by kernel_rfl) (by simp) ?_
      refine AllReadyH.cons (o := { dst := some 14, op := _, type := _, pos := _, after := _, guard := _ }) rfl (fun K hK => ?_) AllReadyH.nil
      go_simp
      refine (clone_hd A cap l _ hl (HSB.out _ hHeld)).mono ?_
      rintro e u1 ⟨⟨A1, c1, rfl, hown0⟩, hk1⟩
      have hKeep := since_step hHeld hk1
      have hown1 := own_base hown0 hHeld.size
      have hvb1 := HV.lt
      have HV := HV.below hk1
      go_wp2_with fail
      refine hK.out _ _ (by (try dsimp only); exact hKeep) (fun hHeld => ?_)
      clear hK K hKeep
      try simp only [Act.put, List.setIfInBounds_toArray, List.set_cons_zero, List.set_cons_succ]
      refine wpAnyH_ready (rs := [4]) (by kernel_rfl) (by simp) ?_
      refine AllReadyH.cons (o := { dst := some 17, op := _, type := _, pos := _, after := _, guard := _ }) rfl (fun K hK => ?_) AllReadyH.nil
      refine step_app rfl (.tmp 14) (.tmp 16) rfl EHd (n := l.length) (m := 1) (c := c1) (d := 1) (A := A1) (B := some ⟨W.drew.heap.size, 0, none⟩) (by simp [Act.eval, Act.put]; done) (by simp [Act.eval, Act.put]; done) hown1 (by rw [Hd.len]) HV.sl (Hd.one x) (by unfold maxLen; omega) (by omega) hHeld.size ?_
      intro A2 c2 u2 hown2 hg2 hb2
      have hKeep := since_step (Below.refl W.heap.size W) (hHeld.trans hb2)
      refine hK.out _ _ (by (try dsimp only); exact hKeep) (fun hHeld => ?_)
      clear hK K hKeep
      try simp only [Act.put, List.setIfInBounds_toArray, List.set_cons_zero, List.set_cons_succ]
      refine wpAnyH_take (i := 5) (oi := { dst := some 6, op := _, type := _, pos := _, after := _, guard := _ }) (v := ?_) rfl (by kernel_rfl) (by kernel_rfl) (by kernel_rfl) (fun _ _ _ h => h) (Or.inl ⟨by rfl, ?_⟩) hHeld ?_
      rotate_left
      · (intro w hSw; obtain ⟨g0, g1, g2⟩ := (HXB.out _ hSw).got; have ha9 := HAB.out _ hSw; go_simp <;> with_reducible rfl)
      try simp only [Act.put, List.setIfInBounds_toArray, List.set_cons_zero, List.set_cons_succ]
      refine wpAnyH_done (by kernel_rfl) ?_ _
      have hB3 := hB2.trans (hHeld.mono hBW)
      go_wp2_with fail
      go_ret
      refine ⟨⟨A2, c2, ?_, ?_⟩, hB3⟩
      · rw [HPL.out, List.length_append]; rfl
      · rw [HPL.out, List.length_append, rc_append]
        have := own_base hown2 hBW
        simpa [rc] using this
  · rw [h0]
    obtain ⟨q, hq⟩ : ∃ q, ah x l[k] = q := ⟨_, rfl⟩
    have HPL := Lib.hid (putL_some (ah := ah) (x := x) hk (fun j hj => hno j hj) hpk)
    have HQ := Lib.hid hq
    have hk64 : (k : Int) < (l.length : Int) := by omega
    have hk0 : ¬ ((k : Int) < 0) := by omega
    obtain ⟨b, o, rfl, hbw, hg⟩ := hs2.hd hk
    have hbW : b < W.heap.size := hbw
    have HEL : Hid (∀ V, Below W.heap.size W V → l[k].at V b (o + k * 3)) := Lib.hid fun V hV => Hd.at_keep (w := W) hg fun i => hV.cell (p := ⟨b, i, none⟩) hbW
    clear h0 hno hx2 ha2 hs2 hp2 hpk hg hbw hq
    go_wp2_with fail
    refine wp_region_held_drew (S := (fun V => Below W.heap.size W V)) (by kernel_rfl) (by exact (Below.refl _ _).drew) (fun hHeld => ?_)
    refine wpAnyH_take (i := 0) (oi := { dst := some 18, op := _, type := _, pos := _, after := _, guard := _ }) (v := ?_) rfl (by kernel_rfl) (by kernel_rfl) (by kernel_rfl) (fun _ _ _ h => h) (Or.inl ⟨by rfl, ?_⟩) hHeld ?_
    rotate_left
    · (intro w hSw; obtain ⟨g0, g1, g2⟩ := (HXB.out _ hSw).got; have ha9 := HAB.out _ hSw; obtain ⟨h0, h1, h2⟩ := HEL.out _ hSw; go_simp <;> with_reducible rfl)
    try simp only [Act.put, List.setIfInBounds_toArray, List.set_cons_zero, List.set_cons_succ]
    refine wpAnyH_take (i := 1) (oi := { dst := some 19, op := _, type := _, pos := _, after := _, guard := _ }) (v := ?_) rfl (by kernel_rfl) (by kernel_rfl) (by kernel_rfl) (fun _ _ _ h => h) (Or.inl ⟨by rfl, ?_⟩) hHeld ?_
    rotate_left
    · (intro w hSw; obtain ⟨g0, g1, g2⟩ := (HXB.out _ hSw).got; have ha9 := HAB.out _ hSw; obtain ⟨h0, h1, h2⟩ := HEL.out _ hSw; go_simp <;> with_reducible rfl)
    try simp only [Act.put, List.setIfInBounds_toArray, List.set_cons_zero, List.set_cons_succ]
    refine wpAnyH_take (i := 2) (oi := { dst := some 20, op := _, type := _, pos := _, after := _, guard := _ }) (v := ?_) rfl (by kernel_rfl) (by kernel_rfl) (by kernel_rfl) (fun _ _ _ h => h) (Or.inl ⟨by rfl, ?_⟩) hHeld ?_
    rotate_left
    · (intro w hSw; obtain ⟨g0, g1, g2⟩ := (HXB.out _ hSw).got; have ha9 := HAB.out _ hSw; obtain ⟨h0, h1, h2⟩ := HEL.out _ hSw; go_simp <;> with_reducible rfl)
    try simp only [Act.put, List.setIfInBounds_toArray, List.set_cons_zero, List.set_cons_succ]
    refine wpAnyH_take (i := 3) (oi := { dst := some 21, op := _, type := _, pos := _, after := _, guard := _ }) (v := ?_) rfl (by kernel_rfl) (by kernel_rfl) (by kernel_rfl) (fun _ _ _ h => h) (Or.inl ⟨by rfl, ?_⟩) hHeld ?_
    rotate_left
    · (intro w hSw; obtain ⟨g0, g1, g2⟩ := (HXB.out _ hSw).got; have ha9 := HAB.out _ hSw; obtain ⟨h0, h1, h2⟩ := HEL.out _ hSw; go_simp <;> with_reducible rfl)
    try simp only [Act.put, List.setIfInBounds_toArray, List.set_cons_zero, List.set_cons_succ]
    refine wpAnyH_take (i := 4) (oi := { dst := some 22, op := _, type := _, pos := _, after := _, guard := _ }) (v := ?_) rfl (by kernel_rfl) (by kernel_rfl) (by kernel_rfl) (fun _ _ _ h => h) (Or.inl ⟨by rfl, ?_⟩) hHeld ?_
    rotate_left
    · (intro w hSw; obtain ⟨g0, g1, g2⟩ := (HXB.out _ hSw).got; have ha9 := HAB.out _ hSw; obtain ⟨h0, h1, h2⟩ := HEL.out _ hSw; go_simp <;> with_reducible rfl)
    try simp only [Act.put, List.setIfInBounds_toArray, List.set_cons_zero, List.set_cons_succ]
    refine wpAnyH_take (i := 5) (oi := { dst := some 23, op := _, type := _, pos := _, after := _, guard := _ }) (v := ?_) rfl (by kernel_rfl) (by kernel_rfl) (by kernel_rfl) (fun _ _ _ h => h) (Or.inl ⟨by rfl, ?_⟩) hHeld ?_
    rotate_left
    · (intro w hSw; obtain ⟨g0, g1, g2⟩ := (HXB.out _ hSw).got; have ha9 := HAB.out _ hSw; obtain ⟨h0, h1, h2⟩ := HEL.out _ hSw; go_simp <;> with_reducible rfl)
    try simp only [Act.put, List.setIfInBounds_toArray, List.set_cons_zero, List.set_cons_succ]
    refine wpAnyH_ready (rs := [6]) (by kernel_rfl) (by simp) ?_
    refine AllReadyH.cons (o := { dst := some 24, op := _, type := _, pos := _, after := _, guard := _ }) rfl (fun K hK => ?_) AllReadyH.nil
    go_simp
    rw [hF, Oper.upon_enter]
    refine (HPB.out _ hHeld x l[k]).mono ?_
    rintro e u1 ⟨rfl, hk1⟩
    have hKeep := since_step hHeld hk1
    rw [HQ.out]
    go_wp2_with fail
    refine hK.out _ _ (by (try dsimp only); exact hKeep) (fun hHeld => ?_)
    clear hK K hKeep
    try simp only [Act.put, List.setIfInBounds_toArray, List.set_cons_zero, List.set_cons_succ]
    refine wpAnyH_done (by kernel_rfl) ?_ _
    have hHW := hHeld
    generalize hUU : u1 = U at hHeld hHW
    cases q with
    | true =>
      subst hUU
      obtain ⟨U, hU⟩ : ∃ U, U = u1 := ⟨_, rfl⟩
      rw [← hU] at hHeld ⊢
      clear hU
      go_wp2_with fail
      refine wp_region_held_drew (S := (fun V => Below W.heap.size W V)) (by kernel_rfl) (by exact hHeld.drew) (fun hHeld => ?_)
      refine wpAnyH_take (i := 0) (oi := { dst := some 25, op := _, type := _, pos := _, after := _, guard := _ }) (v := ?_) rfl (by kernel_rfl) (by kernel_rfl) (by kernel_rfl) (fun _ _ _ h => h) (Or.inl ⟨by rfl, ?_⟩) hHeld ?_
      rotate_left
      · (intro w hSw; obtain ⟨g0, g1, g2⟩ := (HXB.out _ hSw).got; have ha9 := HAB.out _ hSw; go_simp <;> with_reducible rfl)
      try simp only [Act.put, List.setIfInBounds_toArray, List.set_cons_zero, List.set_cons_succ]
      refine wpAnyH_take (i := 2) (oi := { dst := some 27, op := _, type := _, pos := _, after := _, guard := _ }) (v := ?_) rfl (by kernel_rfl) (by kernel_rfl) (by kernel_rfl) (fun _ _ _ h => h) (Or.inl ⟨by rfl, ?_⟩) hHeld ?_
      rotate_left
      · (intro w hSw; obtain ⟨g0, g1, g2⟩ := (HXB.out _ hSw).got; have ha9 := HAB.out _ hSw; go_simp <;> with_reducible rfl)
      try simp only [Act.put, List.setIfInBounds_toArray, List.set_cons_zero, List.set_cons_succ]
      refine wpAnyH_take (i := 3) (oi := { dst := some 28, op := _, type := _, pos := _, after := _, guard := _ }) (v := ?_) rfl (by kernel_rfl) (by kernel_rfl) (by kernel_rfl) (fun _ _ _ h => h) (Or.inl ⟨by rfl, ?_⟩) hHeld ?_
      rotate_left
      · (intro w hSw; obtain ⟨g0, g1, g2⟩ := (HXB.out _ hSw).got; have ha9 := HAB.out _ hSw; go_simp <;> with_reducible rfl)
      try simp only [Act.put, List.setIfInBounds_toArray, List.set_cons_zero, List.set_cons_succ]
      refine wpAnyH_ready (rs := [1, 4]) (by kernel_rfl) (by simp) ?_
      refine AllReadyH.cons (o := { dst := some 26, op := _, type := _, pos := _, after := _, guard := _ }) rfl (fun K hK => ?_) (AllReadyH.cons (o := { dst := some 29, op := _, type := _, pos := _, after := _, guard := _ }) rfl (fun K hK => ?_) AllReadyH.nil)
      · go_simp
        refine (clone_hd (some ⟨b, o, none⟩) cap l _ hl (HSB.out _ hHeld)).mono ?_
        rintro e v1 ⟨⟨A1, c1, rfl, hown0⟩, hk1⟩
        have hKeep := since_step hHeld hk1
        obtain ⟨gb, rfl, hgb1, hgb2, hgb3⟩ := own_at hown0 (by omega)
        have hown1 := own_base hown0 hHeld.size
        go_wp2_with fail
        refine hK.out _ _ (by (try dsimp only); exact hKeep) (fun hHeld => ?_)
        clear hK K hKeep
        try simp only [Act.put, List.setIfInBounds_toArray, List.set_cons_zero, List.set_cons_succ]
        refine wpAnyH_ready (rs := [4]) (by kernel_rfl) (by simp) ?_
        refine AllReadyH.cons (o := { dst := some 29, op := _, type := _, pos := _, after := _, guard := _ }) rfl (fun K hK => ?_) AllReadyH.nil
        have hHd := hHeld
        obtain ⟨g0, g1, g2⟩ := (HXB.out _ hHd).got; have ha9 := HAB.out _ hHd
        have hA := since_alloc hHeld (.cells x.cells.toArray 169)
        have hKeep := hA
        have HV := Hd.Bx.new v1 x
        have hown1 := hown1.alloc (.cells x.cells.toArray 169)
        have hne : v1.heap.size ≠ gb := by omega
        skip
        go_simp
        refine hK.out _ _ (by (try dsimp only); exact hKeep) (fun hHeld => ?_)
        clear hK K hKeep
        try simp only [Act.put, List.setIfInBounds_toArray, List.set_cons_zero, List.set_cons_succ]
        refine wpAnyH_ready (rs := [5]) (by kernel_rfl) (by simp) ?_
        refine AllReadyH.cons (o := { dst := some 30, op := _, type := _, pos := _, after := _, guard := _ }) rfl (fun K hK => ?_) AllReadyH.nil
        go_simp
        refine (insert_hd W.heap.size gb k l.length c1 (v1.heap.size) 1 l x _ rfl hl hk hown1 HV.hp hne hHeld.size).mono ?_
        rintro e v2 ⟨⟨A2, c2, rfl, hown2⟩, hb2⟩
        have hKeep := since_step (Below.refl W.heap.size W) (hHeld.trans hb2)
        go_wp2_with fail
        refine hK.out _ _ (by (try dsimp only); exact hKeep) (fun hHeld => ?_)
        clear hK K hKeep
        try simp only [Act.put, List.setIfInBounds_toArray, List.set_cons_zero, List.set_cons_succ]
        refine wpAnyH_take (i := 6) (oi := { dst := some 6, op := _, type := _, pos := _, after := _, guard := _ }) (v := ?_) rfl (by kernel_rfl) (by kernel_rfl) (by kernel_rfl) (fun _ _ _ h => h) (Or.inl ⟨by rfl, ?_⟩) hHeld ?_
        rotate_left
        · (intro w hSw; obtain ⟨g0, g1, g2⟩ := (HXB.out _ hSw).got; have ha9 := HAB.out _ hSw; go_simp <;> with_reducible rfl)
        try simp only [Act.put, List.setIfInBounds_toArray, List.set_cons_zero, List.set_cons_succ]
        refine wpAnyH_done (by kernel_rfl) ?_ _
        have hB3 := hB2.trans (hHeld.mono hBW)
        go_wp2_with fail
        go_ret
        have hln : (l.take k ++ x :: l.drop k).length = l.length + 1 := by simp; omega
        refine ⟨⟨A2, c2, ?_, ?_⟩, hB3⟩
        · rw [HPL.out, HQ.out, if_pos rfl, hln]; rfl
        · rw [HPL.out, HQ.out, if_pos rfl, hln]
          exact own_base hown2 hBW
      · have hHd := hHeld
        obtain ⟨g0, g1, g2⟩ := (HXB.out _ hHd).got; have ha9 := HAB.out _ hHd
        have hA := since_alloc hHeld (.cells x.cells.toArray 169)
        have hKeep := hA
        have HV := Hd.Bx.new U.drew x
        skip
        go_simp
        refine hK.out _ _ (by (try dsimp only); exact hKeep) (fun hHeld => ?_)
        clear hK K hKeep
        try simp only [Act.put, List.setIfInBounds_toArray, List.set_cons_zero, List.set_cons_succ]
        refine wpAnyH_ready (rs := [1]) (by kernel_rfl) (by simp) ?_
        refine AllReadyH.cons (o := { dst := some 26, op := _, type := _, pos := _, after := _, guard := _ }) rfl (fun K hK => ?_) AllReadyH.nil
        go_simp
        refine (clone_hd (some ⟨b, o, none⟩) cap l _ hl (HSB.out _ hHeld)).mono ?_
        rintro e v1 ⟨⟨A1, c1, rfl, hown0⟩, hk1⟩
        have hKeep := since_step hHeld hk1
        obtain ⟨gb, rfl, hgb1, hgb2, hgb3⟩ := own_at hown0 (by omega)
        have hown1 := own_base hown0 hHeld.size
        have hvb1 := HV.lt
        have hne : U.drew.heap.size ≠ gb := by have h1 := hgb1; simp only [World.size_drew, World.size_alloc] at h1 ⊢; omega
        have HV := HV.below hk1
        go_wp2_with fail
        refine hK.out _ _ (by (try dsimp only); exact hKeep) (fun hHeld => ?_)
        clear hK K hKeep
        try simp only [Act.put, List.setIfInBounds_toArray, List.set_cons_zero, List.set_cons_succ]
        refine wpAnyH_ready (rs := [5]) (by kernel_rfl) (by simp) ?_
        refine AllReadyH.cons (o := { dst := some 30, op := _, type := _, pos := _, after := _, guard := _ }) rfl (fun K hK => ?_) AllReadyH.nil
        go_simp
        refine (insert_hd W.heap.size gb k l.length c1 (U.drew.heap.size) 1 l x _ rfl hl hk hown1 HV.hp hne hHeld.size).mono ?_
        rintro e v2 ⟨⟨A2, c2, rfl, hown2⟩, hb2⟩
        have hKeep := since_step (Below.refl W.heap.size W) (hHeld.trans hb2)
        go_wp2_with fail
        refine hK.out _ _ (by (try dsimp only); exact hKeep) (fun hHeld => ?_)
        clear hK K hKeep
        try simp only [Act.put, List.setIfInBounds_toArray, List.set_cons_zero, List.set_cons_succ]
        refine wpAnyH_take (i := 6) (oi := { dst := some 6, op := _, type := _, pos := _, after := _, guard := _ }) (v := ?_) rfl (by kernel_rfl) (by kernel_rfl) (by kernel_rfl) (fun _ _ _ h => h) (Or.inl ⟨by rfl, ?_⟩) hHeld ?_
        rotate_left
        · (intro w hSw; obtain ⟨g0, g1, g2⟩ := (HXB.out _ hSw).got; have ha9 := HAB.out _ hSw; go_simp <;> with_reducible rfl)
        try simp only [Act.put, List.setIfInBounds_toArray, List.set_cons_zero, List.set_cons_succ]
        refine wpAnyH_done (by kernel_rfl) ?_ _
        have hB3 := hB2.trans (hHeld.mono hBW)
        go_wp2_with fail
        go_ret
        have hln : (l.take k ++ x :: l.drop k).length = l.length + 1 := by simp; omega
        refine ⟨⟨A2, c2, ?_, ?_⟩, hB3⟩
        · rw [HPL.out, HQ.out, if_pos rfl, hln]; rfl
        · rw [HPL.out, HQ.out, if_pos rfl, hln]
          exact own_base hown2 hBW
    | false =>
      subst hUU
      obtain ⟨g0, g1, g2⟩ := (HXB.out _ hHeld).got
      go_wp2_with fail
      refine (set_hd (some ⟨b, o, none⟩) cap l k x _ hl hk (HSB.out _ hHeld)).mono ?_
      rintro e v2 ⟨⟨A2, c2, rfl, hown2⟩, hb2⟩
      have hB3 := hB2.trans ((since_step hHeld hb2).mono hBW)
      go_wp2_with fail
      go_ret
      refine ⟨⟨A2, c2, ?_, ?_⟩, hB3⟩
      · rw [HPL.out, HQ.out, if_neg (by decide), List.length_set]; rfl
      · rw [HPL.out, HQ.out, if_neg (by decide), List.length_set]
        exact own_base hown2 (Nat.le_trans hBW hHeld.size)
end Go.Proofs.Ytldnponbkhgijaa
end
section
namespace Go.Proofs.Ytldnponbkhgijaa
open Go.ChangeShapes Go.WideShapes Go.ChangeAt Go.RowKit
set_option linter.unusedVariables false
set_option linter.unusedSimpArgs false

structure Lt where
  (ast : Int) (tag : Int) (qty : Int)
deriving DecidableEq
def Lt.cells (g : Lt) : List Value := [.int .i64 g.ast, .int .i64 g.tag, .int .i64 g.qty]
def Lt.val (g : Lt) : Value := .agg #[.int .i64 g.ast, .int .i64 g.tag, .int .i64 g.qty]
def Lt.zero : Lt := ⟨0, 0, 0⟩
theorem Lt.len (g : Lt) : g.cells.length = 3 := rfl
theorem Lt.one (g : Lt) : ∀ u ∈ g.cells, u.oneCell' = true := by
  intro u hu
  simp only [Lt.cells, List.mem_cons, List.not_mem_nil, or_false] at hu
  rcases hu with h | h | h <;> subst h <;> rfl
def Lt.at (g : Lt) (w : World) (b o : Nat) : Prop :=
  w.cell? ⟨b, o, none⟩ = some (.int .i64 g.ast) ∧ w.cell? ⟨b, o + 1, none⟩ = some (.int .i64 g.tag) ∧ w.cell? ⟨b, o + 2, none⟩ = some (.int .i64 g.qty)
theorem Lt.at_of {w : World} {b o : Nat} {g : Lt} (h : ∀ j u, g.cells[j]? = some u → w.cell? ⟨b, o + j, none⟩ = some u) : g.at w b o :=
  ⟨h 0 _ rfl, h 1 _ rfl, h 2 _ rfl⟩
theorem Lt.at_keep {w w' : World} {b o : Nat} {g : Lt} (h : g.at w b o) (k : ∀ i, w'.cell? ⟨b, i, none⟩ = w.cell? ⟨b, i, none⟩) : g.at w' b o := by
  unfold Lt.at at *
  simp only [k]
  exact h
theorem Sl.lt {w : World} {A : Option Addr} {l : List Lt} (h : Sl w A (rc Lt.cells l)) {k : Nat} (hk : k < l.length) : ∃ b o, A = some ⟨b, o, none⟩ ∧ b < w.heap.size ∧ l[k].at w b (o + k * 3) := by
  obtain ⟨b, o, hA, hb, hc⟩ := Sl.elem (m := 3) Lt.len (by decide) h hk
  exact ⟨b, o, hA, hb, Lt.at_of hc⟩
theorem ELt : Elem Try.prog 94 93 3 24 := Elem.mk' (z := .agg #[.int .i64 0, .int .i64 0, .int .i64 0]) (by kernel_rfl) (by kernel_rfl) (by decide) (by decide)
def Lt.Tells (F : Nat) (caps : Array Value) (p : Lt → Bool) (B : Nat) (w : World) : Prop :=
  ∀ (g : Lt) (W : World), Below B w W → Calls Try.prog F (#[g.val] ++ caps) W fun e w' => e = .returned (.bool (p g)) ∧ Below W.heap.size W w'
theorem Lt.Tells.below {F : Nat} {caps : Array Value} {p : Lt → Bool} {B : Nat} {w w1 : World} (h : Lt.Tells F caps p B w) (hb : Below B w w1) {C : Nat} (hC : B ≤ C) : Lt.Tells F caps p C w1 :=
  fun g W hW => h g W (hb.trans (hW.mono hC))
set_option maxHeartbeats 1000000 in
set_option maxRecDepth 100000 in
theorem index_lt (A : Option Addr) (cap : Nat) (l : List Lt) (F : Nat) (caps : Array Value) (p : Lt → Bool) (w : World) (hl : l.length ≤ 1000000) (hs : Sl w A (rc Lt.cells l)) (hF : Ent Try.prog F) (hp : Lt.Tells F caps p w.heap.size w) :
    Calls Try.prog 206 #[.slice A l.length cap, .func (.func F) #[] caps] w fun e w' => e = .returned (.int .i64 (atL p l)) ∧ Below w.heap.size w w' := by
  go_enter Try.func206, Try.ntmps206
  go_wp2
  go_loopw [8] (fun i wr => ∃ k : Nat, k ≤ l.length ∧ i = .int .i64 k ∧ (∀ j, (hj : j < l.length) → j < k → p l[j] = false) ∧ Below w.heap.size w wr) (fun i _ => l.length - (intOf i).toNat)
  case atStart => exact ⟨0, by omega, rfl, fun j hj h => absurd h (by omega), Below.refl _ _⟩
  case round =>
    obtain ⟨k, hk, rfl, hno, hB⟩ := hrel
    by_cases hlt2 : k < l.length
    · obtain ⟨b, o, rfl, hbw, hg⟩ := hs.lt hlt2
      have hg1 : l[k].at wr b (o + k * 3) := Lt.at_keep (w := w) hg fun i => hB.cell (p := ⟨b, i, none⟩) hbw
      obtain ⟨g0, g1, g2⟩ := hg1
      have hbr : b < wr.heap.size := Nat.lt_of_lt_of_le hbw hB.size
      have step := hp l[k] wr hB
      cases hq : p l[k] with
      | true =>
        have HQ := Lib.hid hq
        go_wp2_with fail
        rw [hF, Oper.upon_enter]
        refine step.mono ?_
        rintro e w1 ⟨rfl, hb1⟩
        have hB1 := since_step hB hb1
        clear hb1
        rw [HQ.out]
        go_wp2
        go_ret
        exact ⟨retI (atL_some hlt2 (fun j hj => hno j (by omega) hj) HQ.out).symm, hB1⟩
      | false =>
        have HQ := Lib.hid hq
        go_wp2_with fail
        rw [hF, Oper.upon_enter]
        refine step.mono ?_
        rintro e w1 ⟨rfl, hb1⟩
        have hB1 := since_step hB hb1
        clear hb1
        rw [HQ.out]
        go_wp2
        go_roundw
        case rel =>
          refine ⟨k + 1, by omega, by go_num, fun j hj hjk => ?_, hB1⟩
          rcases Nat.lt_or_ge j k with h | h
          · exact hno j hj h
          · obtain rfl : j = k := by omega
            exact HQ.out
        case measure => simp [intOf]; omega
    · go_wp2
      go_ret
      exact ⟨retI (atL_none fun j hj => hno j hj (by omega)).symm, hB⟩
set_option maxHeartbeats 1000000 in
set_option maxRecDepth 100000 in
theorem clone_lt (A : Option Addr) (cap : Nat) (l : List Lt) (w : World) (hl : l.length ≤ 1000000) (hs : Sl w A (rc Lt.cells l)) :
    Calls Try.prog 127 #[.slice A l.length cap] w fun e w' => (∃ A' c', e = .returned (.slice A' l.length c') ∧ w'.ownsRow w.heap.size 93 3 (.slice A' l.length c') l.length (rc Lt.cells l)) ∧ Below w.heap.size w w' := by
  cases A with
  | none =>
    have hn : l = [] := by
      cases l with
      | nil => rfl
      | cons g m => obtain ⟨b, o, e, _⟩ := hs.lt (k := 0) (by simp); cases e
    subst hn
    have hnil := fun w : World => Go.Lib.run_eql_slice_nil (P := Try.prog) w 94 93 none 0 cap 0 0 ELt.und
    go_enter Try.func127, Try.ntmps127
    go_wp2_with fail
    go_ret
    exact ⟨⟨none, 0, rfl, own_nil _ _ _⟩, Below.refl _ _⟩
  | some ad =>
    have hnil := fun w : World => Go.Lib.run_eql_slice_nil (P := Try.prog) w 94 93 (some ad) l.length cap 0 0 ELt.und
    go_enter Try.func127, Try.ntmps127
    go_wp2_with (first
      | (at_builtin; refine wpList_app rfl (.tmp 5) (.tmp 6) rfl ELt rfl rfl (World.ownsRow_made (w := w) #[] 0 (Nat.le_refl _) (Nat.zero_le _) rfl) (rc_length Lt.len l) (hs.alloc _) (rc_one Lt.one l) (by unfold maxLen; omega) (by omega) (by simp) ?_; intro A2 c2 w2 hown2 hg2 hb2; simp only [Nat.zero_add, List.nil_append] at hown2)
      | fail)
    refine bodyPost_ret (results_tmp rfl _ _ _) rfl ⟨⟨A2, c2, by simp, by simpa using hown2⟩, ?_⟩
    exact Below.trans ((Below.refl _ _).alloc (Nat.le_refl _) _) hb2
theorem set_rc_lt (g : Lt) : ∀ (l : List Lt) (k : Nat), k < l.length → ((((rc Lt.cells l).set (k * 3) (.int .i64 g.ast)).set (k * 3 + 1) (.int .i64 g.tag)).set (k * 3 + 2) (.int .i64 g.qty)) = rc Lt.cells (l.set k g) := by
  intro l
  induction l with
  | nil => intro k h; simp at h
  | cons a l ih =>
    intro k h
    cases k with
    | zero => simp [rc, Lt.cells]
    | succ k =>
      have := ih k (by simpa using h)
      have e0 : (k + 1) * 3 = k * 3 + 3 := by omega
      rw [e0]
      simp only [rc, List.map_cons, List.flatten_cons, List.set_cons_succ, Lt.cells, List.cons_append, List.nil_append] at this ⊢
      rw [← this]
theorem own_set_lt {w : World} {B b k n c : Nat} {l : List Lt} (h : w.ownsRow B 93 3 (.slice (some ⟨b, 0, none⟩) n c) n (rc Lt.cells l)) (hk : k < l.length) (g : Lt) :
    ((((w.setCell ⟨b, k * 3, none⟩ (.int .i64 g.ast)).setCell ⟨b, k * 3 + 1, none⟩ (.int .i64 g.tag)).setCell ⟨b, k * 3 + 2, none⟩ (.int .i64 g.qty))).ownsRow B 93 3 (.slice (some ⟨b, 0, none⟩) n c) n (rc Lt.cells (l.set k g)) := by
  rw [← set_rc_lt g l k hk]
  have hl := rc_length Lt.len l
  have hkk : k * 3 + 3 ≤ l.length * 3 := by have := Nat.mul_le_mul_right 3 (show k + 1 ≤ l.length from hk); omega
  refine (own_set1 (own_set1 (own_set1 h ?_ _) ?_ _) ?_ _)
  all_goals first | omega | (simp only [List.length_set]; omega)
set_option maxHeartbeats 1000000 in
set_option maxRecDepth 100000 in
theorem set_lt (A : Option Addr) (cap : Nat) (l : List Lt) (k : Nat) (g : Lt) (w : World) (hl : l.length ≤ 1000000) (hk : k < l.length) (hs : Sl w A (rc Lt.cells l)) :
    Calls Try.prog 209 #[.slice A l.length cap, .int .i64 k, g.val] w fun e w' => (∃ A' c', e = .returned (.slice A' l.length c') ∧ w'.ownsRow w.heap.size 93 3 (.slice A' l.length c') l.length (rc Lt.cells (l.set k g))) ∧ Below w.heap.size w w' := by
  unfold Lt.val
  go_enter Try.func209, Try.ntmps209
  go_wp2_with fail
  refine (clone_lt A cap l _ hl (hs.alloc _)).mono ?_
  rintro e w1 ⟨⟨A1, c1, rfl, hown⟩, hb1⟩
  have Bv := (Bk.new w g.cells.toArray 93).below hb1
  have hB1 := since_step (since_alloc (Below.refl _ _) _) hb1
  obtain ⟨gb, rfl, h1, h2, h3⟩ := own_at hown (by omega)
  simp only [World.size_alloc] at h1 hown
  clear hb1
  obtain ⟨lb, cb⟩ := id Bv
  have q0 := cb 0
  have q1 := cb 1
  have q2 := cb 2
  simp [Lt.cells] at q0 q1 q2
  clear cb
  obtain ⟨b, o, e, hbw, hgat⟩ := (Sl.of_own hown).lt hk
  injection e with e
  injection e with e1 e2 e3
  subst e1; subst e2
  simp only [Nat.zero_add] at hgat
  obtain ⟨g0, g1, g2⟩ := id hgat
  go_wp2_with fail
  refine bodyPost_ret (results_tmp rfl _ _ _) rfl ⟨⟨_, _, rfl, ?_⟩, ?_⟩
  · have hh := own_set_lt hown hk g
    rcases hh with ⟨hh1, hh2⟩
    refine ⟨hh1, ?_⟩
    rcases hh2 with ⟨hh2, _⟩ | ⟨g', cap', cur', e1, e2, e3⟩
    · cases hh2
    · exact .inr ⟨g', cap', cur', e1, by omega, e3⟩
  repeat' (first | with_reducible exact hB1 | with_reducible refine Below.setCell ?_ ?_ _)
  all_goals first | (simp; done) | (simp; omega)
theorem run_sizeOf_lt (w : World) : (Go.sizeOf 93).run Try.prog w = .ok 3 w := by
  obtain ⟨i, z, hi, hz, hsize, hby, hzs⟩ := ELt.info
  simp [Go.sizeOf, typeInfo, hi, hsize]
theorem info_size_lt : (Try.prog.info? 93).map (·.size) = some 3 := by kernel_rfl
theorem overlaps_lt (w : World) (vb g o vc lb cb : Nat) (cs cur : Array Value) (hv : w.heap[vb]? = some (.cells cs 93 (0, 0))) (hg : w.heap[g]? = some (.cells cur 93 (0, 0))) (hne : vb ≠ g) (h0 : cur.size ≠ 0) :
    (callFunc 227 #[.slice (some ⟨vb, 0, none⟩) 1 vc, .slice (some ⟨g, o, none⟩) lb cb]).run Try.prog w = .ok (.value (.bool false)) w := by
  rw [run_callFunc_extern Try.func227 (by kernel_rfl) (by kernel_rfl) (by kernel_rfl) (e := Extern.SlicesOverlaps.overlaps #[94, 94] #[4]) (by kernel_rfl),
    Lib.run_overlaps_apart w 94 4 93 ELt.und 3 run_sizeOf_lt ⟨vb, 0, none⟩ ⟨g, o, none⟩ 1 vc lb cb hne 93 93 cs.size cur.size (by simp [World.shape?, hv]) (by simp [World.shape?, hg]) h0 (by simp [World.frozen?, hv]) (by simp [World.frozen?, hv])]
  rfl
set_option maxHeartbeats 4000000 in
set_option maxRecDepth 100000 in
theorem insert_room_lt (B g i n c vb vc : Nat) (l : List Lt) (x : Lt) (w : World) (hn : l.length = n) (hi : i < n) (hroom : n + 1 ≤ c) (hown : w.ownsRow B 93 3 (.slice (some ⟨g, 0, none⟩) n c) n (rc Lt.cells l))
    (hv : w.heap[vb]? = some (.cells x.cells.toArray 93 (0, 0))) (hne : vb ≠ g) :
    Calls Try.prog 208 #[.slice (some ⟨g, 0, none⟩) n c, .int .i64 i, .slice (some ⟨vb, 0, none⟩) 1 vc] w fun e w' =>
      (∃ A' c', e = .returned (.slice A' (n + 1) c') ∧ w'.ownsRow B 93 3 (.slice A' (n + 1) c') (n + 1) (rc Lt.cells (l.take i ++ x :: l.drop i))) ∧ Below B w w' := by
  rcases hown.2 with ⟨hh, _⟩ | ⟨g', cap, cur, hh, hB, hg, hnc, hcm, hcs, ht⟩
  · cases hh
  injection hh with e1 e2 e3
  injection e1 with e1
  injection e1 with e1
  subst e1; subst e3
  unfold maxLen at hcm
  have hov := fun o lb cb => overlaps_lt w vb g o vc lb cb _ _ hv hg hne (by omega)
  have hw1 : IntKind.i64.wrap ((i : Int) + 1) = (i : Int) + 1 := by rw [IntKind.wrap_i64]; omega
  have hb1 : (0 : Int) ≤ (i : Int) + 1 := by omega
  have htn : ((i : Int) + 1).toNat = i + 1 := by omega
  have hb2 : ¬ (c = i + 1) := by omega
  have hb3 : (i : Int) ≤ (n : Int) + 1 := by omega
  have hb4 : ¬ (c = i) := by omega
  have hz2 : ¬ ((i : Int) = (n : Int)) := by omega
  have hin : i ≤ n := by omega
  have hml : (i + 1) * 3 ≤ n * 3 := Nat.mul_le_mul_right _ (by omega)
  have hmc : (n + 1) * 3 ≤ c * 3 := Nat.mul_le_mul_right _ hroom
  have hlen : (rc Lt.cells (l.drop i)).length = (n - i) * 3 := by rw [rc_length Lt.len, List.length_drop, hn]
  have HM : Hid (Nat.min (n + 1 - i) (n - i) = n - i ∧ Nat.min 1 (n + 1 - i) = 1) := Lib.hid ⟨Nat.min_eq_right (by omega), Nat.min_eq_left (by omega)⟩
  have HN := Lib.hid (show (rc Lt.cells (l.drop i)).length = Nat.min (n + 1 - i) (n - i) * 3 by rw [hlen, HM.out.1])
  have HS : Hid (∀ j v, (rc Lt.cells (l.drop i))[j]? = some v → w.drew.cell? ((⟨g, i * 3, none⟩ : Addr).add j) = some v) := Lib.hid (by
    intro j v hj
    have hlt : j < (n - i) * 3 := by rw [← hlen]; exact (List.getElem?_eq_some_iff.1 hj).1
    rw [addr_add]
    show w.cell? _ = _
    rw [cell_of_row w g _ cur 93 (0, 0) hg, ← Array.getElem?_toList]
    rw [← rc_drop Lt.len, List.getElem?_drop, ← ht, List.getElem?_take] at hj
    split at hj
    · exact hj
    · cases hj)
  have HF := Lib.hid (show (i + 1) * 3 + (rc Lt.cells (l.drop i)).length ≤ cur.toList.length by rw [hlen, Array.length_toList, hcs, Nat.sub_mul]; omega)
  have HG := Lib.hid (show w.drew.heap[g]? = some (.cells cur.toList.toArray 93 (0, 0)) by show w.heap[g]? = _; simpa using hg)
  have HC : Hid (cur.toList.length = c * 3 ∧ n * 3 + x.cells.length ≤ c * 3 ∧ (i + 1) * 3 = i * 3 + x.cells.length ∧ (i + 1) * 3 ≤ n * 3) := Lib.hid ⟨by simpa using hcs, by rw [Lt.len]; omega, by rw [Lt.len]; omega, hml⟩
  have HD : Hid (Below B w w.drew) := Lib.hid ⟨rfl, rfl, rfl, Nat.le_refl _, fun _ _ => rfl⟩
  clear hlen hml hmc
  go_enter Try.func208, Try.ntmps208
  go_wp2_with (simp only [hov])
  go_region_law (refine step_copyN rfl (.tmp 73) (.tmp 76) 94 94 rfl 93 3 ELt.und info_size_lt g ((i + 1) * 3) (n - i) (c - (i + 1)) ⟨g, i * 3, none⟩ (n + 1 - i) (c - i) (by simp [Act.eval, Act.put]; done) (by simp [Act.eval, Act.put]; done) cur.toList 93 HG.out (rc Lt.cells (l.drop i)) HN.out HS.out HF.out (rc_one Lt.one _) B w HD.out hB ?_; intro w4 hg4 hk4 hb4; rw [HM.out.1])
  have HV : Hid (∀ j v, x.cells[j]? = some v → w4.cell? ((⟨vb, 0, none⟩ : Addr).add j) = some v) := Lib.hid (by
    intro j v hj
    rw [addr_add, Nat.zero_add, cell_of_row w4 vb j x.cells.toArray 93 (0, 0) ((hk4.out vb hne).trans hv)]
    simpa using hj)
  have HF2 := Lib.hid (show i * 3 + x.cells.length ≤ (splice cur.toList ((i + 1) * 3) (rc Lt.cells (l.drop i))).length by
    rw [length_splice _ _ _ HF.out, Lt.len, Array.length_toList, hcs]
    have : (i + 1) * 3 ≤ c * 3 := Nat.mul_le_mul_right _ (by omega)
    omega)
  have hrun := run_copyN (P := Try.prog) w4 94 94 3 93 3 g (i * 3) (n + 1 - i) (c - i) ⟨vb, 0, none⟩ 1 vc _ 93 x.cells ELt.und info_size_lt hg4.out (by rw [HM.out.2]; rfl) HV.out (by simpa using HF2.out) (Lt.one x)
  have hg5 := setRow_heap w4 g _ ((List.take (i * 3) (splice cur.toList ((i + 1) * 3) (rc Lt.cells (List.drop i l))).toArray.toList ++ x.cells ++ List.drop (i * 3 + x.cells.length) (splice cur.toList ((i + 1) * 3) (rc Lt.cells (List.drop i l))).toArray.toList)).toArray 93 (0, 0) hg4.out
  have hb5 := below_setRow hb4 hB ((List.take (i * 3) (splice cur.toList ((i + 1) * 3) (rc Lt.cells (List.drop i l))).toArray.toList ++ x.cells ++ List.drop (i * 3 + x.cells.length) (splice cur.toList ((i + 1) * 3) (rc Lt.cells (List.drop i l))).toArray.toList)).toArray
  rw [HM.out.2] at hrun
  generalize w4.setRow g _ = w5 at hrun hg5 hb5
  have HG5 := Lib.hid hg5
  have HR := Lib.hid hrun
  clear hg5 hrun
  go_wp2_with fail
  rw [HR.out, Result.andThen_ok, Oper.upon_value]
  go_wp2
  go_ret
  refine ⟨⟨some ⟨g, 0, none⟩, c, rfl, ?_, .inr ⟨g, c, _, rfl, hB, HG5.out, hroom, hcm, ?_, ?_⟩⟩, hb5⟩
  · rw [rc_length Lt.len]
    simp
    omega
  · have := (shift_row cur.toList x.cells (rc Lt.cells (l.drop i)) (rc Lt.cells l) (i * 3) ((i + 1) * 3) (n * 3) (c * 3) HC.out.1 HC.out.2.1 HC.out.2.2.1 HC.out.2.2.2 ht (rc_drop Lt.len l i).symm).1
    rw [List.size_toArray]
    exact this
  · have := (shift_row cur.toList x.cells (rc Lt.cells (l.drop i)) (rc Lt.cells l) (i * 3) ((i + 1) * 3) (n * 3) (c * 3) HC.out.1 HC.out.2.1 HC.out.2.2.1 HC.out.2.2.2 ht (rc_drop Lt.len l i).symm).2
    rw [rc_append, rc_cons, ← rc_take Lt.len, ← this, Nat.add_mul]
    rfl
set_option maxHeartbeats 4000000 in
set_option maxRecDepth 100000 in
theorem insert_grow_lt (B g i n c vb vc : Nat) (l : List Lt) (x : Lt) (w : World) (hn : l.length = n) (hn6 : n ≤ 1000000) (hi : i < n) (hroom : c < n + 1) (hown : w.ownsRow B 93 3 (.slice (some ⟨g, 0, none⟩) n c) n (rc Lt.cells l))
    (hv : w.heap[vb]? = some (.cells x.cells.toArray 93 (0, 0))) (hBw : B ≤ w.heap.size) :
    Calls Try.prog 208 #[.slice (some ⟨g, 0, none⟩) n c, .int .i64 i, .slice (some ⟨vb, 0, none⟩) 1 vc] w fun e w' =>
      (∃ A' c', e = .returned (.slice A' (n + 1) c') ∧ w'.ownsRow B 93 3 (.slice A' (n + 1) c') (n + 1) (rc Lt.cells (l.take i ++ x :: l.drop i))) ∧ Below B w w' := by
  rcases hown.2 with ⟨hh, _⟩ | ⟨g', cap, cur, hh, hB, hg, hnc, hcm, hcs, ht⟩
  · cases hh
  injection hh with e1 e2 e3
  injection e1 with e1
  injection e1 with e1
  subst e1; subst e3
  obtain ⟨inf, z, hinf, hz, hsize, hby, hzs⟩ := ELt.info
  have hgl : g < w.heap.size := by
    rcases Nat.lt_or_ge g w.heap.size with hlt | hge
    · exact hlt
    · rw [Array.getElem?_eq_none hge] at hg; cases hg
  have hvl : vb < w.heap.size := by
    rcases Nat.lt_or_ge vb w.heap.size with hlt | hge
    · exact hlt
    · rw [Array.getElem?_eq_none hge] at hv; cases hv
  have hlT : (rc Lt.cells (l.take i)).length = i * 3 := by rw [rc_length Lt.len, List.length_take, Nat.min_eq_left (by omega)]
  have hlD : (rc Lt.cells (l.drop i)).length = (n - i) * 3 := by rw [rc_length Lt.len, List.length_drop, hn]
  have hold : (Builtin.firstCells inf.size i (.slice (some ⟨g, 0, none⟩) i c)).run Try.prog w.drew = .ok (rc Lt.cells (l.take i)).toArray w.drew := by
    rw [hsize]
    refine run_firstCells_some w.drew 3 i ⟨g, 0, none⟩ i c (rc Lt.cells (l.take i)) hlT fun j v hj => ?_
    rw [addr_add, Nat.zero_add]
    show w.cell? _ = _
    rw [cell_of_row w g _ cur 93 (0, 0) hg, ← Array.getElem?_toList]
    rw [← rc_take Lt.len, ← ht, List.take_take, List.getElem?_take] at hj
    split at hj
    · exact hj
    · cases hj
  have hik : i + (n + 1 - i) = n + 1 := by omega
  have hkk : (n : Int) + 1 - (i : Int) = ((n + 1 - i : Nat) : Int) := by omega
  obtain ⟨G, hG⟩ : ∃ G, G = grownCap w (n + 1) c 93 := ⟨_, rfl⟩
  obtain ⟨ROW, hROW⟩ : ∃ ROW : Array Value, ROW = (rc Lt.cells (l.take i)).toArray ++ Builtin.zeroCells z.cells (n + 1 - i) ++ Builtin.zeroCells z.cells (G - (n + 1)) := ⟨_, rfl⟩
  have hrz : (Builtin.append_ #[94, 3] 94 #[.slice (some ⟨g, 0, none⟩) i c, .int .i64 ((n : Int) + 1 - (i : Int))]).run Try.prog w =
      .ok (.slice (some ⟨w.heap.size, 0, none⟩) (n + 1) G) (w.drew.alloc (.cells ROW 93)) := by
    have h := Lib.run_append_grow_zeros w 94 3 94 93 inf z .i64 .i64 ELt.und (by kernel_rfl) hinf hz (some ⟨g, 0, none⟩) i c (rc Lt.cells (l.take i)) hold (n + 1 - i) (by omega) (by omega) (by omega) (by omega) (by rw [hby]; omega) (by rw [hby, hik]; exact growslice_fits hroom (by omega))
    rw [hik, ← hG] at h
    rw [hkk, hROW]
    exact h
  have hGn : n + 1 ≤ G := by rw [hG]; exact grownCap_ge w _ _ _
  have hGm : G ≤ maxLen := by rw [hG]; exact grownCap_le_maxLen w (n + 1) c 93 (by unfold maxLen; omega)
  have hRs : ROW.size = G * 3 := by
    rw [hROW, Array.size_append, Array.size_append, zeroCells_size _ _ (by omega), zeroCells_size _ _ (by omega), List.size_toArray, hlT, hzs]
    have e1 : G = i + (n + 1 - i) + (G - (n + 1)) := by omega
    have : G * 3 = (i + (n + 1 - i) + (G - (n + 1))) * 3 := by rw [← e1]
    rw [this, Nat.add_mul, Nat.add_mul]
  have hRt : ROW.toList.take (i * 3) = (rc Lt.cells l).take (i * 3) := by
    rw [rc_take Lt.len, hROW, Array.toList_append, Array.toList_append, List.append_assoc]
    simp only [List.append_assoc]
    rw [List.take_append_of_le_length (by rw [hlT]; exact Nat.le_refl _), List.take_of_length_le (by rw [hlT]; exact Nat.le_refl _)]
  have hgn : (w.drew.alloc (.cells ROW 93)).heap[w.heap.size]? = some (.cells ROW 93 (0, 0)) := heap_alloc_new w.drew _
  have hgo : (w.drew.alloc (.cells ROW 93)).heap[g]? = some (.cells cur 93 (0, 0)) := (heap_alloc_old w.drew (.cells ROW 93) (show g < w.drew.heap.size from hgl)).trans hg
  have hgv : (w.drew.alloc (.cells ROW 93)).heap[vb]? = some (.cells x.cells.toArray 93 (0, 0)) := (heap_alloc_old w.drew (.cells ROW 93) (show vb < w.drew.heap.size from hvl)).trans hv
  have hW1 : Below B w (w.drew.alloc (.cells ROW 93)) := Below.alloc (show Below B w w.drew from ⟨rfl, rfl, rfl, Nat.le_refl _, fun _ _ => rfl⟩) hBw _
  have hgN : w.heap.size ≠ g := by omega
  have hvN : w.heap.size ≠ vb := by omega
  generalize w.drew.alloc (.cells ROW 93) = W1 at hrz hgn hgo hgv hW1
  generalize hNN : w.heap.size = N at hrz hgn hgN hvN hBw
  clear hNN
  have hXl : x.cells.length = 3 := Lt.len x
  have hin1 : (i + 1) * 3 ≤ n * 3 := Nat.mul_le_mul_right _ (by omega)
  have hGmul : (n + 1) * 3 ≤ G * 3 := Nat.mul_le_mul_right _ hGn
  have hniM : (n - i) * 3 = n * 3 - i * 3 := Nat.sub_mul _ _ _
  have hcp1 := run_copyN (P := Try.prog) W1 94 94 3 93 3 N (i * 3) (n + 1 - i) (G - i) ⟨vb, 0, none⟩ 1 vc ROW 93 x.cells ELt.und info_size_lt hgn (by rw [show Nat.min 1 (n + 1 - i) = 1 from Nat.min_eq_left (by omega)]; rfl)
    (fun j v hj => by rw [addr_add, Nat.zero_add, cell_of_row W1 vb j x.cells.toArray 93 (0, 0) hgv]; simpa using hj) (by rw [hXl, hRs]; omega) (Lt.one x)
  rw [show Nat.min 1 (n + 1 - i) = 1 from Nat.min_eq_left (by omega)] at hcp1
  obtain ⟨R1, hR1⟩ : ∃ R1, R1 = ROW.toList.take (i * 3) ++ x.cells ++ ROW.toList.drop (i * 3 + x.cells.length) := ⟨_, rfl⟩
  rw [← hR1] at hcp1
  have hR1l : R1.length = G * 3 := by rw [hR1, List.length_append, List.length_append, List.length_take, List.length_drop, hXl, Array.length_toList, hRs]; omega
  have hgn2 := setRow_heap W1 N _ R1.toArray 93 (0, 0) hgn
  have hgo2 := (setRow_other W1 N g R1.toArray (fun h => hgN h.symm)).trans hgo
  have hW2 := below_setRow hW1 (Nat.le_trans hBw (Nat.le_refl _)) R1.toArray
  generalize W1.setRow N R1.toArray = W2 at hcp1 hgn2 hgo2 hW2
  have HRZ := Lib.hid hrz
  have HC1 := Lib.hid hcp1
  have HM : Hid (Nat.min (n - i) (n + 1 - (i + 1)) = n - i) := Lib.hid (Nat.min_eq_left (by omega))
  have HN := Lib.hid (show (rc Lt.cells (l.drop i)).length = Nat.min (n - i) (n + 1 - (i + 1)) * 3 by rw [hlD, HM.out])
  have HS : Hid (∀ j v, (rc Lt.cells (l.drop i))[j]? = some v → W2.drew.cell? ((⟨g, i * 3, none⟩ : Addr).add j) = some v) := Lib.hid (by
    intro j v hj
    rw [addr_add]
    show W2.cell? _ = _
    rw [cell_of_row W2 g _ cur 93 (0, 0) hgo2, ← Array.getElem?_toList]
    rw [← rc_drop Lt.len, List.getElem?_drop, ← ht, List.getElem?_take] at hj
    split at hj
    · exact hj
    · cases hj)
  have HF := Lib.hid (show (i + 1) * 3 + (rc Lt.cells (l.drop i)).length ≤ R1.length by rw [hlD, hR1l, hniM]; omega)
  have HG := Lib.hid (show W2.drew.heap[N]? = some (.cells R1.toArray 93 (0, 0)) from hgn2)
  have HD : Hid (Below B w W2.drew) := Lib.hid ⟨hW2.os, hW2.tape, hW2.output, hW2.size, hW2.block⟩
  have HGR := Lib.hid (grow_row ROW.toList x.cells (rc Lt.cells (l.drop i)) (rc Lt.cells l) (i * 3) ((i + 1) * 3) (G * 3) (by simpa using hRs) (by rw [hXl]; omega) (by rw [hlD, hniM]; omega) hRt)
  have HLD := Lib.hid hlD
  have HR1 := Lib.hid hR1
  have HBN := Lib.hid hBw
  have HGM := Lib.hid hGm
  have HGN := Lib.hid hGn
  have HNI := Lib.hid hniM
  have HLN := Lib.hid hn
  have hw1 : IntKind.i64.wrap ((i : Int) + 1) = (i : Int) + 1 := by rw [IntKind.wrap_i64]; omega
  have hw2 : IntKind.i64.wrap ((n : Int) + 1) = (n : Int) + 1 := by rw [IntKind.wrap_i64]; omega
  have hw3 : IntKind.i64.wrap ((n : Int) + 1 - (i : Int)) = (n : Int) + 1 - (i : Int) := by rw [IntKind.wrap_i64]; omega
  have hb1 : (0 : Int) ≤ (i : Int) + 1 := by omega
  have htn : ((i : Int) + 1).toNat = i + 1 := by omega
  have hb2 : ¬ (G = i + 1) := by omega
  have hb3 : (i : Int) ≤ (n : Int) := by omega
  have hb4 : ¬ (c = i) := by omega
  have hb5 : ¬ (G = i) := by omega
  have hz2 : ¬ ((i : Int) = (n : Int)) := by omega
  have hz3 : (c : Int) < (n : Int) + 1 := by omega
  have hin : i ≤ n := by omega
  unfold maxLen at hcm hGm
  clear hik hkk hold hROW hG hRs hRt hlT hlD hrz hgn hgo hgv hcp1 hgn2 hgo2 hR1 hR1l hXl hin1 hGmul hniM hsize hby hzs hinf hz hg hv ht hcs hGn hn hBw hW2 hW1 hown
  go_enter Try.func208, Try.ntmps208
  go_wp2_with (first | (at_builtin; refine Lib.wpList_append_run _ rfl _ _ _ _ rfl _ _ rfl rfl _ _ HRZ.out ?_) | fail)
  rw [HC1.out, Result.andThen_ok, Oper.upon_value]
  go_wp2_with fail
  go_region_law (refine step_copyN rfl (.tmp 50) (.tmp 53) 94 94 rfl 93 3 ELt.und info_size_lt N ((i + 1) * 3) (n + 1 - (i + 1)) (G - (i + 1)) ⟨g, i * 3, none⟩ (n - i) (c - i) (by simp [Act.eval, Act.put]; done) (by simp [Act.eval, Act.put]; done) R1 93 HG.out (rc Lt.cells (l.drop i)) HN.out HS.out HF.out (rc_one Lt.one _) B w HD.out HBN.out ?_; intro w4 hg4 hk4 hb4; rw [HM.out])
  go_wp2
  go_ret
  have hD := HLD.out
  have hgr := HGR.out
  rw [← HR1.out] at hgr
  refine ⟨⟨some ⟨N, 0, none⟩, G, rfl, ?_, .inr ⟨N, G, _, rfl, HBN.out, hg4.out, HGN.out, HGM.out, ?_, ?_⟩⟩, hb4⟩
  · have hn := HLN.out
    rw [rc_length Lt.len]
    simp
    omega
  · rw [List.size_toArray]
    exact hgr.1
  · have h2 := hgr.2
    have hN1 : (n + 1) * 3 = (i + 1) * 3 + (rc Lt.cells (l.drop i)).length := by
      have : i * 3 ≤ n * 3 := Nat.mul_le_mul_right _ hin
      rw [hD, HNI.out]
      omega
    rw [rc_append, rc_cons, ← rc_take Lt.len, ← h2, hN1]
theorem insert_lt (B g i n c vb vc : Nat) (l : List Lt) (x : Lt) (w : World) (hn : l.length = n) (hn6 : n ≤ 1000000) (hi : i < n) (hown : w.ownsRow B 93 3 (.slice (some ⟨g, 0, none⟩) n c) n (rc Lt.cells l))
    (hv : w.heap[vb]? = some (.cells x.cells.toArray 93 (0, 0))) (hne : vb ≠ g) (hBw : B ≤ w.heap.size) :
    Calls Try.prog 208 #[.slice (some ⟨g, 0, none⟩) n c, .int .i64 i, .slice (some ⟨vb, 0, none⟩) 1 vc] w fun e w' =>
      (∃ A' c', e = .returned (.slice A' (n + 1) c') ∧ w'.ownsRow B 93 3 (.slice A' (n + 1) c') (n + 1) (rc Lt.cells (l.take i ++ x :: l.drop i))) ∧ Below B w w' := by
  by_cases h : n + 1 ≤ c
  · exact insert_room_lt B g i n c vb vc l x w hn hi h hown hv hne
  · exact insert_grow_lt B g i n c vb vc l x w hn hn6 hi (by omega) hown hv hBw
end Go.Proofs.Ytldnponbkhgijaa
end
section
namespace Go.Proofs.Ytldnponbkhgijaa
open Go.ChangeShapes Go.WideShapes Go.ChangeAt Go.RowKit
set_option linter.unusedVariables false
set_option linter.unusedSimpArgs false

def Lt.Df (p : Lt → Bool) (l : List Lt) (n c g B : Nat) (w : World) (i j : Value) (wr : World) : Prop :=
  ∃ (kk jj : Nat) (l' : List Lt), i = .int .i64 kk ∧ j = .int .i64 jj ∧ jj ≤ n ∧ kk < jj ∧ l'.length = n ∧ l'.take kk = (l.take jj).filter (fun g => !p g) ∧ (∀ t, jj ≤ t → l'[t]? = l[t]?) ∧
    wr.ownsRow B 93 3 (.slice (some ⟨g, 0, none⟩) n c) n (rc Lt.cells l') ∧ Below B w wr
set_option maxHeartbeats 4000000 in
set_option maxRecDepth 100000 in
theorem delfunc_lt (B n c : Nat) (A : Option Addr) (l : List Lt) (F : Nat) (caps : Array Value) (p : Lt → Bool) (w : World) (hn : l.length = n) (hn6 : n ≤ 1000000) (hBw : B ≤ w.heap.size) (hown : w.ownsRow B 93 3 (.slice A n c) n (rc Lt.cells l))
    (hF : Ent Try.prog F) (hp : Lt.Tells F caps p B w) :
    Calls Try.prog 210 #[.slice A n c, .func (.func F) #[] caps] w fun e w' =>
      (∃ A' c', e = .returned (.slice A' (l.filter fun g => !p g).length c') ∧ w'.ownsRow B 93 3 (.slice A' (l.filter fun g => !p g).length c') (l.filter fun g => !p g).length (rc Lt.cells (l.filter fun g => !p g))) ∧ Below B w w' := by
  have hidx := index_lt A c l F caps p w (by omega) (Sl.of_own hown) hF (hp.below (Below.refl _ _) hBw)
  rw [hn] at hidx
  rcases atL_cases p l with ⟨h0, hno⟩ | ⟨k, hk, h0, hpk, hno⟩
  · rw [h0] at hidx
    rw [filter_none hno, hn]
    go_enter Try.func210, Try.ntmps210
    go_wp2_with fail
    refine hidx.mono ?_
    rintro e w1 ⟨rfl, hb1⟩
    have hown1 := own_below hown hb1
    go_wp2_with fail
    go_ret
    exact ⟨⟨A, c, rfl, hown1⟩, hb1.mono hBw⟩
  · rw [h0] at hidx
    obtain ⟨g, rfl, hgB, hgw, hgf⟩ := own_at hown (by omega)
    have HFH := Lib.hid (filter_head hk (fun j hj => hno j hj) hpk)
    have hk1 : k < n := by omega
    have hw1 : IntKind.i64.wrap ((k : Int) + 1) = (k : Int) + 1 := by rw [IntKind.wrap_i64]; omega
    have HLN := Lib.hid hn
    have hkm : ((k : Int) == -1) = false := by simp
    clear hno hpk h0
    go_enter Try.func210, Try.ntmps210
    go_wp2_with fail
    refine hidx.mono ?_
    rintro e w1 ⟨rfl, hb1⟩
    have hown1 := own_below hown hb1
    have hB1 : Below B w w1 := hb1.mono hBw
    clear hb1 hidx
    go_wp2_with fail
    go_loopw [5, 6] (fun i j wr => Lt.Df p l n c g B w i j wr) (fun _ j _ => n - (intOf j).toNat)
    case atStart => exact ⟨k, k + 1, l, rfl, by first | rfl | go_num, by omega, by omega, HLN.out, HFH.out.symm, fun t _ => rfl, hown1, hB1⟩
    case round =>
      obtain ⟨kk, jj, l', rfl, rfl, hjn, hkj, hl', htk, hab, howr, hBr⟩ := hrel
      by_cases hlt : jj < n
      · have hl6 : jj < l.length := by have := HLN.out; omega
        have hl7 : jj < l'.length := by omega
        have hl8 : kk < l'.length := by omega
        obtain ⟨b, o, e, hbw, hgat⟩ := (Sl.of_own howr).lt hl7
        injection e with e
        injection e with e1 e2 e3
        subst e1; subst e2
        simp only [Nat.zero_add] at hgat
        have hel : l'[jj] = l[jj] := by
          have := hab jj (Nat.le_refl _)
          rw [List.getElem?_eq_getElem hl7, List.getElem?_eq_getElem hl6] at this
          injection this
        rw [hel] at hgat
        have hgg := own_slice_g howr
        have hgw2 := hgg.2.1
        have hfz := hgg.2.2.1
        clear hgg
        have HSN := Lib.hid (filter_snoc (fun g => !p g) l jj hl6)
        have HTK := Lib.hid htk
        have HAB := Lib.hid hab
        have HL7 := Lib.hid hl'
        have HL8 := Lib.hid hl8
        clear hel htk hab hl' hl8
        generalize l[jj] = v at hgat HSN
        clear hl6 hl7
        obtain ⟨g0, g1, g2⟩ := hgat
        have hcs := @cell_set
        have hw2 : IntKind.i64.wrap ((jj : Int) + 1) = (jj : Int) + 1 := by rw [IntKind.wrap_i64]; omega
        have hw3 : IntKind.i64.wrap ((kk : Int) + 1) = (kk : Int) + 1 := by rw [IntKind.wrap_i64]; omega
        cases hq : p v with
        | true =>
          have HQ := Lib.hid hq
          clear hq
          go_wp2_with fail
          rw [hF, Oper.upon_enter]
          have hBa : Below B w (wr.alloc (.cells v.cells.toArray 93)) := hBr.alloc (Nat.le_trans hBw hBr.size) _
          refine (hp v _ hBa).mono ?_
          rintro e w2 ⟨rfl, hb2⟩
          have hown2 := own_below (howr.alloc (.cells v.cells.toArray 93)) hb2
          have hB2 : Below B w w2 := hBa.trans (hb2.mono (Nat.le_trans hBw hBa.size))
          clear hb2 hBa
          rw [HQ.out]
          go_wp2
          go_roundw
          case rel =>
            refine ⟨kk, jj + 1, l', rfl, by go_num, by omega, by omega, HL7.out, ?_, fun t ht => HAB.out t (by omega), hown2, hB2⟩
            rw [HSN.out, HQ.out]
            simpa using HTK.out
          case measure => simp [intOf]; omega
        | false =>
          have HQ := Lib.hid hq
          clear hq
          go_wp2_with fail
          rw [hF, Oper.upon_enter]
          have hBa : Below B w (wr.alloc (.cells v.cells.toArray 93)) := hBr.alloc (Nat.le_trans hBw hBr.size) _
          refine (hp v _ hBa).mono ?_
          rintro e w2 ⟨rfl, hb2⟩
          have hown2 := own_below (howr.alloc (.cells v.cells.toArray 93)) hb2
          have hB2 : Below B w w2 := hBa.trans (hb2.mono (Nat.le_trans hBw hBa.size))
          have Bv := (Bk.new wr v.cells.toArray 93).below hb2
          have hgN : g ≠ wr.heap.size := by omega
          clear hb2 hBa g0 g1 g2 hgw2 hbw
          rw [HQ.out]
          obtain ⟨lb, cb⟩ := id Bv
          have q0 := cb 0
          have q1 := cb 1
          have q2 := cb 2
          simp [Lt.cells] at q0 q1 q2
          clear cb Bv
          have hgg := own_slice_g hown2
          have hgw2 := hgg.2.1
          have hfz := hgg.2.2.1
          clear hgg
          obtain ⟨b, o, e, hbw, hgat⟩ := (Sl.of_own hown2).lt HL8.out
          injection e with e
          injection e with e1 e2 e3
          subst e1; subst e2
          simp only [Nat.zero_add] at hgat
          generalize l'[kk] = old at hgat
          obtain ⟨g0, g1, g2⟩ := hgat
          go_wp2_with fail
          go_roundw
          case rel =>
            refine ⟨kk + 1, jj + 1, l'.set kk v, by go_num, by go_num, by omega, by omega, by rw [List.length_set]; exact HL7.out, ?_, fun t ht => ?_, own_set_lt hown2 HL8.out v, ?_⟩
            · rw [set_take_snoc HL8.out, HSN.out, HQ.out, HTK.out]
              simp
            · rw [set_get_above (by omega)]
              exact HAB.out t (by omega)
            · repeat' (first | with_reducible exact hB2 | with_reducible refine Below.setCell ?_ ?_ _)
              all_goals exact hgB
          case measure => simp [intOf]; omega
      · obtain rfl : jj = n := by omega
        have hkn : kk < jj := hkj
        rcases howr.2 with ⟨hh, _⟩ | ⟨g', cap, cur, hh, hB, hg, hnc, hcm, hcs, ht⟩
        · injection hh with e1; cases e1
        injection hh with e1 e2 e3
        injection e1 with e1
        injection e1 with e1
        subst e1; subst e3
        obtain ⟨inf, z, hinf, hz, hsize, hby, hzs⟩ := ELt.info
        have hzc : (Builtin.zeroCells z.cells (jj - kk)).size = (jj - kk) * 3 := by rw [size_zeroCells, hzs]
        have hm1 : kk * 3 + (jj - kk) * 3 ≤ c * 3 := by
          have h1 : kk + (jj - kk) ≤ c := by omega
          have := Nat.mul_le_mul_right 3 h1
          rwa [Nat.add_mul] at this
        have hkc : kk * 3 ≤ jj * 3 := Nat.mul_le_mul_right _ (by omega)
        have hcl : ∀ ty, (Builtin.clear_ #[94] ty #[.slice (some ⟨g, kk * 3, none⟩) (jj - kk) (c - kk)]).run Try.prog wr = .ok (.tuple #[]) (wr.setRow g (cur.toList.take (kk * 3) ++ (Builtin.zeroCells z.cells (jj - kk)).toList ++ cur.toList.drop (kk * 3 + (Builtin.zeroCells z.cells (jj - kk)).toList.length)).toArray) := fun ty =>
          run_clearN wr 94 93 ty z ELt.und (fun w => by simp [zeroValue, typeInfo, hinf, hz]) g (kk * 3) (jj - kk) (c - kk) cur 93 (by omega) hg (by rw [hzc, hcs]; exact hm1) (by
            have hz0 : z = .agg #[.int .i64 0, .int .i64 0, .int .i64 0] := by
              have h2 : (Try.prog.info? 93).bind (·.zero) = some (.agg #[.int .i64 0, .int .i64 0, .int .i64 0]) := by kernel_rfl
              rw [hinf] at h2
              simp [hz] at h2
              exact h2
            rw [hz0]
            refine zeroCells_one _ _ (by simp [Value.cells]) fun u hu => ?_
            simp [Value.cells] at hu
            first | (subst hu; rfl) | (rcases hu with h <;> subst h <;> rfl))
        have hg3 := setRow_heap wr g _ (cur.toList.take (kk * 3) ++ (Builtin.zeroCells z.cells (jj - kk)).toList ++ cur.toList.drop (kk * 3 + (Builtin.zeroCells z.cells (jj - kk)).toList.length)).toArray 93 (0, 0) hg
        have hb3 := below_setRow hBr hB (cur.toList.take (kk * 3) ++ (Builtin.zeroCells z.cells (jj - kk)).toList ++ cur.toList.drop (kk * 3 + (Builtin.zeroCells z.cells (jj - kk)).toList.length)).toArray
        have hsz3 : (cur.toList.take (kk * 3) ++ (Builtin.zeroCells z.cells (jj - kk)).toList ++ cur.toList.drop (kk * 3 + (Builtin.zeroCells z.cells (jj - kk)).toList.length)).toArray.size = c * 3 := by
          simp only [List.size_toArray, List.length_append, List.length_take, List.length_drop, Array.length_toList, hcs, hzc]
          omega
        have htk3 : (cur.toList.take (kk * 3) ++ (Builtin.zeroCells z.cells (jj - kk)).toList ++ cur.toList.drop (kk * 3 + (Builtin.zeroCells z.cells (jj - kk)).toList.length)).toArray.toList.take (kk * 3) = rc Lt.cells (l'.take kk) := by
          rw [← rc_take Lt.len, ← ht, List.take_take, Nat.min_eq_left hkc, List.append_assoc]
          rw [List.take_append_of_le_length (by simp only [List.length_take, Array.length_toList, hcs]; omega), List.take_take, Nat.min_self]
        generalize (cur.toList.take (kk * 3) ++ (Builtin.zeroCells z.cells (jj - kk)).toList ++ cur.toList.drop (kk * 3 + (Builtin.zeroCells z.cells (jj - kk)).toList.length)).toArray = NEW at hcl hg3 hb3 hsz3 htk3
        generalize wr.setRow g NEW = W3 at hcl hg3 hb3
        have hfl : l.filter (fun g => !p g) = l'.take kk := by rw [htk, List.take_of_length_le (by rw [HLN.out]; omega)]
        have hfn : (l'.take kk).length = kk := by rw [List.length_take]; omega
        have hown3 : W3.ownsRow B 93 3 (.slice (some ⟨g, 0, none⟩) kk c) kk (rc Lt.cells (l'.take kk)) :=
          ⟨by rw [rc_length Lt.len, hfn], .inr ⟨g, c, NEW, rfl, hB, hg3, by omega, hcm, hsz3, htk3⟩⟩
        have hbk : ¬ (c = kk) := by omega
        have HFL := Lib.hid hfl
        have HFN := Lib.hid hfn
        unfold maxLen at hcm
        clear hfl hfn hg3 htk3 hsz3 hkc hm1 hzc hsize hby hzs hinf hz htk hab hl' hcs ht hg
        go_wp2_with fail
        refine bodyPost_ret (results_tmp rfl _ _ _) rfl ⟨⟨some ⟨g, 0, none⟩, c, ?_, ?_⟩, hb3⟩
        · rw [HFL.out, HFN.out]; rfl
        · rw [HFL.out, HFN.out]; exact hown3
set_option maxHeartbeats 1000000 in
set_option maxRecDepth 100000 in
theorem drop_lt (A : Option Addr) (cap : Nat) (l : List Lt) (F : Nat) (caps : Array Value) (p : Lt → Bool) (w : World) (hl : l.length ≤ 1000000) (hs : Sl w A (rc Lt.cells l)) (hF : Ent Try.prog F) (hp : Lt.Tells F caps p w.heap.size w) :
    Calls Try.prog 183 #[.slice A l.length cap, .func (.func F) #[] caps] w fun e w' =>
      (∃ A' c', e = .returned (.slice A' (l.filter fun g => !p g).length c') ∧ w'.ownsRow w.heap.size 93 3 (.slice A' (l.filter fun g => !p g).length c') (l.filter fun g => !p g).length (rc Lt.cells (l.filter fun g => !p g))) ∧ Below w.heap.size w w' := by
  go_enter Try.func183, Try.ntmps183
  go_wp2_with fail
  refine (clone_lt A cap l _ hl hs).mono ?_
  rintro e w1 ⟨⟨A1, c1, rfl, hown⟩, hb1⟩
  go_wp2_with fail
  refine (delfunc_lt w.heap.size l.length c1 A1 l F caps p w1 rfl hl hb1.size hown hF (hp.below hb1 (Nat.le_refl _))).mono ?_
  rintro e w2 ⟨⟨A2, c2, rfl, hown2⟩, hb2⟩
  go_wp2_with fail
  go_ret
  exact ⟨⟨A2, c2, rfl, hown2⟩, hb1.trans hb2⟩
set_option maxHeartbeats 1000000 in
set_option maxRecDepth 100000 in
theorem find_lt (A : Option Addr) (cap : Nat) (l : List Lt) (F : Nat) (caps : Array Value) (p : Lt → Bool) (w : World) (hl : l.length ≤ 1000000) (hs : Sl w A (rc Lt.cells l)) (hF : Ent Try.prog F) (hp : Lt.Tells F caps p w.heap.size w) :
    Calls Try.prog 205 #[.slice A l.length cap, .func (.func F) #[] caps] w fun e w' =>
      e = .returned (.tuple #[(pickL p Lt.zero l).val, .bool (l.find? p).isSome]) ∧ Below w.heap.size w w' := by
  have hB0 := since_alloc (Below.refl w.heap.size w) (.cells #[.int .i64 0, .int .i64 0, .int .i64 0] 93)
  have hidx := index_lt A cap l F caps p (w.alloc (.cells #[.int .i64 0, .int .i64 0, .int .i64 0] 93)) hl (hs.alloc _) hF (hp.below hB0 (by simp))
  have Bz := Bk.new w #[.int .i64 0, .int .i64 0, .int .i64 0] 93
  rcases atL_cases p l with ⟨h0, hno⟩ | ⟨k, hk, h0, hpk, hno⟩
  · rw [h0] at hidx
    have HF1 := Lib.hid (find_none hno)
    clear hno h0
    go_enter Try.func205, Try.ntmps205
    go_wp2_with fail
    refine hidx.mono ?_
    rintro e w1 ⟨rfl, hb1⟩
    have hB1 := since_step hB0 hb1
    have Bz := Bz.below hb1
    obtain ⟨lb, cb⟩ := id Bz
    have q0 := cb 0
    have q1 := cb 1
    have q2 := cb 2
    simp at q0 q1 q2
    clear cb
    have hfz : ∀ i, w1.frozen? ⟨w.heap.size, i, none⟩ = false := fun i => by rw [(hb1.frozen (p := ⟨w.heap.size, i, none⟩) (by simp))]; simp
    have hcs := @cell_set
    clear hb1 Bz hidx
    go_wp2_with fail
    refine bodyPost_ret (v := .tuple #[Lt.zero.val, .bool false]) ?_ rfl ⟨?_, ?_⟩
    · have hca : ∀ (V : World) (o : Obj) (i : Nat), w.heap.size < V.heap.size → (V.alloc o).cell? ⟨w.heap.size, i, none⟩ = V.cell? ⟨w.heap.size, i, none⟩ := fun V o i h => World.cell?_alloc_lt V o ⟨w.heap.size, i, none⟩ h
      simp [results, Try.results205, go_sem, q0, q1, q2, hfz, Lt.zero, Lt.val, hca, lb]
    · rw [pickL, HF1.out]; rfl
    · repeat' (first | with_reducible exact hB1 | with_reducible refine Below.setCell ?_ ?_ _ | with_reducible refine Below.alloc ?_ ?_ _)
      all_goals first | (simp; done) | (simp; omega)
  · rw [h0] at hidx
    have HF1 := Lib.hid (find_some hk hno hpk)
    clear hno h0 hpk
    go_enter Try.func205, Try.ntmps205
    go_wp2_with fail
    refine hidx.mono ?_
    rintro e w1 ⟨rfl, hb1⟩
    have hB1 := since_step hB0 hb1
    have Bz := Bz.below hb1
    obtain ⟨lb, cb⟩ := id Bz
    have q0 := cb 0
    have q1 := cb 1
    have q2 := cb 2
    simp at q0 q1 q2
    clear cb
    have hfz : ∀ i, w1.frozen? ⟨w.heap.size, i, none⟩ = false := fun i => by rw [(hb1.frozen (p := ⟨w.heap.size, i, none⟩) (by simp))]; simp
    have hcs := @cell_set
    obtain ⟨b, o, rfl, hbw, hgat⟩ := ((hs.alloc (.cells #[.int .i64 0, .int .i64 0, .int .i64 0] 93)).below hb1).lt hk
    clear hb1 Bz hidx hs
    generalize l[k] = g at *
    obtain ⟨g0, g1, g2⟩ := hgat
    go_wp2_with fail
    refine bodyPost_ret (v := .tuple #[g.val, .bool true]) ?_ rfl ⟨?_, ?_⟩
    · simp [results, Try.results205, go_sem, q0, q1, q2, hfz, Lt.val]
    · rw [pickL, HF1.out]; rfl
    · repeat' (first | with_reducible exact hB1 | with_reducible refine Below.setCell ?_ ?_ _ | with_reducible refine Below.alloc ?_ ?_ _)
      all_goals first | (simp; done) | (simp; omega)
end Go.Proofs.Ytldnponbkhgijaa
end
