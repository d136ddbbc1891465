import Derived.Deep.DeepCutAuto
import Derived.Deep.RegionHeld3
import Derived.Test.YtldnponbkhgijaaDoorIt00
import Derived.Deep.RegionLaw
import Derived.Lib.SliceRun
import Derived.IntWalk
import Derived.Laws.Bits64
import Derived.Laws.BitsAllLaws
import Derived.Laws.Externs
import Derived.Deep.RegionWith
import Derived.Ground.SlgnProg
import Derived.Shelf.Bits.Mul64
import Derived.Shelf.LaysM
import Derived.Shelf.SlicesE.Clone
import Derived.Shelf.SlicesG.Clone
import Derived.Shelf.Small.Bits
import Derived.Shelf.Strconv.Itoa0
import Derived.Shelf.Strconv.Itoa1
import Derived.Shelf.Strconv.Itoa2
import Derived.Shelf.Strings.Builder1
import Derived.Shelf.Strings.Builder2
import Derived.Shelf.Strings.Builder2Cap
import Derived.Shelf.Strings.BuilderCap
import Derived.Shelf.Strings.BuilderF
import Derived.Shelf.Strings.BuilderK
import Derived.Shelf.Strings.Prefix
import Derived.Shelf.Strings.Repeat
import Derived.Test.YtldnponbkhgijaaDoorProg
section
namespace Go.Proofs.YtldnponbkhgijaaDoor
open Go.ChangeShapes Go.WideShapes Go.ChangeAt Go.RowKit
set_option linter.unusedVariables false
set_option linter.unusedSimpArgs false

def Iq.Tells2 (F : Nat) (caps : Array Value) (ah : Iq → Iq → Bool) (B : Nat) (w : World) : Prop :=
  ∀ (a b : Iq) (W : World), Below B w W → Calls Tryd.prog F (#[a.val, b.val] ++ caps) W fun e w' => e = .returned (.bool (ah a b)) ∧ Below W.heap.size W w'
theorem Iq.Tells2.below {F : Nat} {caps : Array Value} {ah : Iq → Iq → Bool} {B : Nat} {w w1 : World} (h : Iq.Tells2 F caps ah B w) (hb : Below B w w1) {C : Nat} (hC : B ≤ C) : Iq.Tells2 F caps ah C w1 :=
  fun a b W hW => h a b W (hb.trans (hW.mono hC))
structure Iq.Bx (w : World) (b : Nat) (g : Iq) : Prop where
  lt : b < w.heap.size
  at_ : g.at w b 0
  hp : w.heap[b]? = some (.cells g.cells.toArray 25 (0, 0))
theorem Iq.Bx.new (w : World) (g : Iq) : Iq.Bx (w.alloc (.cells g.cells.toArray 25)) w.heap.size g := by
  have h := heap_alloc_new w (.cells g.cells.toArray 25 (0, 0))
  refine ⟨by simp, Iq.at_of fun j u hu => ?_, h⟩
  rw [Nat.zero_add, cell_of_row _ _ j g.cells.toArray 25 (0, 0) h]
  simpa using hu
theorem Iq.Bx.below {w w' : World} {b : Nat} {g : Iq} (h : Iq.Bx w b g) (hb : Below w.heap.size w w') : Iq.Bx w' b g :=
  ⟨Nat.lt_of_lt_of_le h.lt hb.size, Iq.at_keep h.at_ fun i => hb.cell (p := ⟨b, i, none⟩) h.lt, (hb.block b h.lt).trans h.hp⟩
theorem Iq.Bx.sl {w : World} {b : Nat} {g : Iq} (h : Iq.Bx w b g) : Sl w (some ⟨b, 0, none⟩) g.cells := by
  intro _
  refine ⟨b, 0, rfl, fun j u hu => ?_⟩
  rw [Nat.zero_add, cell_of_row _ _ j g.cells.toArray 25 (0, 0) h.hp]
  simpa using hu
theorem Iq.Bx.got {w : World} {b : Nat} {g : Iq} (h : Iq.Bx w b g) : w.cell? ⟨b, 0, none⟩ = some (.int .i64 g.id) ∧ w.cell? ⟨b, 1, none⟩ = some (.int .i64 g.mult) ∧ w.cell? ⟨b, 2, none⟩ = some (.int .i64 g.price) ∧ w.cell? ⟨b, 3, none⟩ = some (.int .i64 g.nxt) ∧ w.cell? ⟨b, 4, none⟩ = some (.slice g.mv g.mvL g.mvC) := by
  have := h.at_
  unfold Iq.at at this
  simpa only [Nat.zero_add] using this
set_option maxHeartbeats 1000000 in
set_option maxRecDepth 100000 in
theorem put1_iq (AH : Nat) (caps : Array Value) (ah : Iq → Iq → Bool) (x y : Iq) (ba bx : Nat) (w : World) (hF : Ent Tryd.prog AH) (hp : Iq.Tells2 AH caps ah w.heap.size w) (hx : Iq.Bx w bx x) (ha : w.cell? ⟨ba, 0, none⟩ = some (.func (.func AH) #[] caps)) :
    Calls Tryd.prog 33 #[y.val, .pointer (some ⟨ba, 0, none⟩), .pointer (some ⟨bx, 0, none⟩)] w fun e w' => e = .returned (.bool (!ah y x)) ∧ Below w.heap.size w w' := by
  have hlt := World.block_lt_of_cell? _ _ ha
  obtain ⟨g0, g1, g2, g3, g4⟩ := hx.got
  have hlx := hx.lt
  have hB0 := since_alloc (Below.refl w.heap.size w) (.cells y.cells.toArray 25)
  have HP := Lib.hid (hp y x _ hB0)
  clear hp hx
  unfold Iq.val
  go_enter Tryd.func33, Tryd.ntmps33
  go_wp2_with fail
  rw [hF, Oper.upon_enter]
  refine HP.out.mono ?_
  rintro e w1 ⟨rfl, hb1⟩
  have hB1 := since_step hB0 hb1
  clear hb1
  obtain ⟨q, hq⟩ : ∃ q, ah y x = q := ⟨_, rfl⟩
  have HQ := Lib.hid hq
  rw [HQ.out]
  clear hq
  cases q <;> (go_wp2_with fail; go_ret; refine ⟨retB ?_, hB1⟩; rw [HQ.out]; rfl)
theorem tells_put1_iq (AH : Nat) (caps : Array Value) (ah : Iq → Iq → Bool) (x : Iq) (ba bx : Nat) (w : World) (hF : Ent Tryd.prog AH) (hp : Iq.Tells2 AH caps ah w.heap.size w) (hx : Iq.Bx w bx x) (ha : w.cell? ⟨ba, 0, none⟩ = some (.func (.func AH) #[] caps)) :
    Iq.Tells 33 #[.pointer (some ⟨ba, 0, none⟩), .pointer (some ⟨bx, 0, none⟩)] (fun y => !ah y x) w.heap.size w := by
  intro y W hW
  exact put1_iq AH caps ah x y ba bx W hF (hp.below hW hW.size) (hx.below hW) ((hW.cell (p := ⟨ba, 0, none⟩) (World.block_lt_of_cell? _ _ ha)).trans ha)
theorem ent_put1_iq : Ent Tryd.prog 33 := Ent.of (by kernel_rfl)
set_option maxHeartbeats 4000000 in
set_option maxRecDepth 100000 in
theorem put_iq (A : Option Addr) (cap : Nat) (l : List Iq) (x : Iq) (AH : Nat) (caps : Array Value) (ah : Iq → Iq → Bool) (w : World) (hl : l.length ≤ 1000000) (hs : Sl w A (rc Iq.cells l)) (hF : Ent Tryd.prog AH) (hp : Iq.Tells2 AH caps ah w.heap.size w) :
    Calls Tryd.prog 23 #[.slice A l.length cap, x.val, .func (.func AH) #[] caps] w fun e w' =>
      (∃ A' c', e = .returned (.slice A' (putL ah l x).length c') ∧ w'.ownsRow w.heap.size 25 5 (.slice A' (putL ah l x).length c') (putL ah l x).length (rc Iq.cells (putL ah l x))) ∧ Below w.heap.size w w' := by
  have hB0 : Below w.heap.size w ((w.alloc (.cells #[.int .i64 x.id, .int .i64 x.mult, .int .i64 x.price, .int .i64 x.nxt, .slice x.mv x.mvL x.mvC] 25)).alloc (.cells #[.func (.func AH) #[] caps] 40)) := since_alloc (since_alloc (Below.refl _ _) _) _
  have hx0 : Iq.Bx ((w.alloc (.cells #[.int .i64 x.id, .int .i64 x.mult, .int .i64 x.price, .int .i64 x.nxt, .slice x.mv x.mvL x.mvC] 25)).alloc (.cells #[.func (.func AH) #[] caps] 40)) w.heap.size x := (Iq.Bx.new w x).below ((Below.refl _ _).alloc (Nat.le_refl _) (.cells #[.func (.func AH) #[] caps] 40))
  have ha0 : ((w.alloc (.cells #[.int .i64 x.id, .int .i64 x.mult, .int .i64 x.price, .int .i64 x.nxt, .slice x.mv x.mvL x.mvC] 25)).alloc (.cells #[.func (.func AH) #[] caps] 40)).cell? ⟨w.heap.size + 1, 0, none⟩ = some (.func (.func AH) #[] caps) := by
    have := World.cell?_alloc_new (w.alloc (.cells #[.int .i64 x.id, .int .i64 x.mult, .int .i64 x.price, .int .i64 x.nxt, .slice x.mv x.mvL x.mvC] 25)) #[.func (.func AH) #[] caps] 40 0
    rw [World.size_alloc] at this
    rw [this]; rfl
  have hs0 := (hs.alloc (.cells #[.int .i64 x.id, .int .i64 x.mult, .int .i64 x.price, .int .i64 x.nxt, .slice x.mv x.mvL x.mvC] 25)).alloc (.cells #[.func (.func AH) #[] caps] 40)
  unfold Iq.val
  go_enter Tryd.func23, Tryd.ntmps23
  go_upto_region 1 with fail
  have hx1 : w.heap.size + 1 < ((w.alloc (.cells #[.int .i64 x.id, .int .i64 x.mult, .int .i64 x.price, .int .i64 x.nxt, .slice x.mv x.mvL x.mvC] 25)).alloc (.cells #[.func (.func AH) #[] caps] 40)).heap.size := by simp
  have hp0 := hp.below hB0 (C := ((w.alloc (.cells #[.int .i64 x.id, .int .i64 x.mult, .int .i64 x.price, .int .i64 x.nxt, .slice x.mv x.mvL x.mvC] 25)).alloc (.cells #[.func (.func AH) #[] caps] 40)).heap.size) (by simp; omega)
  generalize hWW : ((w.alloc (.cells #[.int .i64 x.id, .int .i64 x.mult, .int .i64 x.price, .int .i64 x.nxt, .slice x.mv x.mvL x.mvC] 25)).alloc (.cells #[.func (.func AH) #[] caps] 40)) = W0 at *
  clear hWW
  have HIX := Lib.hid (index_iq A cap l 33 #[.pointer (some ⟨w.heap.size + 1, 0, none⟩), .pointer (some ⟨w.heap.size, 0, none⟩)] (fun y => !ah y x) W0 hl hs0 ent_put1_iq (tells_put1_iq AH caps ah x (w.heap.size + 1) w.heap.size W0 hF hp0 hx0 ha0))
  go_wp2_with fail
  refine HIX.out.mono ?_
  rintro e W ⟨rfl, hb1⟩
  have hx2 := hx0.below hb1
  have ha2 := (hb1.cell (p := ⟨w.heap.size + 1, 0, none⟩) hx1).trans ha0
  have hs2 := hs0.below hb1
  have hp2 := hp0.below hb1 (Nat.le_trans (Nat.le_refl _) hb1.size)
  have hB2 := since_step hB0 hb1
  have hx3 : w.heap.size + 1 < W.heap.size := Nat.lt_of_lt_of_le hx1 hb1.size
  clear hp0 hs0 ha0 hx0 hx1 hb1 HIX hs hp hB0
  have HXB : Hid (∀ V, Below W.heap.size W V → Iq.Bx V w.heap.size x) := Lib.hid fun V hV => hx2.below hV
  have HAB : Hid (∀ V, Below W.heap.size W V → V.cell? ⟨w.heap.size + 1, 0, none⟩ = some (.func (.func AH) #[] caps)) := Lib.hid fun V hV => (hV.cell (p := ⟨w.heap.size + 1, 0, none⟩) hx3).trans ha2
  have HSB : Hid (∀ V, Below W.heap.size W V → Sl V A (rc Iq.cells l)) := Lib.hid fun V hV => hs2.below hV
  have HPB : Hid (∀ V, Below W.heap.size W V → ∀ a b, Calls Tryd.prog AH (#[a.val, b.val] ++ caps) V fun e w' => e = .returned (.bool (ah a b)) ∧ Below V.heap.size V w') := Lib.hid fun V hV a b => hp2 a b V hV
  have hBW : w.heap.size ≤ W.heap.size := by omega
  rcases atL_cases (fun y => !ah y x) l with ⟨h0, hno⟩ | ⟨k, hk, h0, hpk, hno⟩
  · rw [h0]
    have HPL := Lib.hid (putL_none (ah := ah) (x := x) hno)
    clear h0 hno hx2 ha2 hs2 hp2
    go_wp2_with fail
    refine wp_region_held_drew (S := (fun V => Below W.heap.size W V)) (by kernel_rfl) (by exact (Below.refl _ _).drew) (fun hHeld => ?_)
    refine wpAnyH_take (i := 0) (oi := { dst := some 13, op := _, type := _, pos := _, after := _, guard := _ }) (v := ?_) rfl (by kernel_rfl) (by kernel_rfl) (by kernel_rfl) (fun _ _ _ h => h) (Or.inl ⟨by rfl, ?_⟩) hHeld ?_
    rotate_left
    · (intro w hSw; obtain ⟨g0, g1, g2, g3, g4⟩ := (HXB.out _ hSw).got; have ha9 := HAB.out _ hSw; go_simp <;> with_reducible rfl)
    try simp only [Act.put, List.setIfInBounds_toArray, List.set_cons_zero, List.set_cons_succ]
    refine wpAnyH_take (i := 2) (oi := { dst := some 15, op := _, type := _, pos := _, after := _, guard := _ }) (v := ?_) rfl (by kernel_rfl) (by kernel_rfl) (by kernel_rfl) (fun _ _ _ h => h) (Or.inl ⟨by rfl, ?_⟩) hHeld ?_
    rotate_left
    · (intro w hSw; obtain ⟨g0, g1, g2, g3, g4⟩ := (HXB.out _ hSw).got; have ha9 := HAB.out _ hSw; go_simp <;> with_reducible rfl)
    try simp only [Act.put, List.setIfInBounds_toArray, List.set_cons_zero, List.set_cons_succ]
    refine wpAnyH_ready (rs := [1, 3]) (by kernel_rfl) (by simp) ?_
    refine AllReadyH.cons (o := { dst := some 14, op := _, type := _, pos := _, after := _, guard := _ }) rfl (fun K hK => ?_) (AllReadyH.cons (o := { dst := some 16, op := _, type := _, pos := _, after := _, guard := _ }) rfl (fun K hK => ?_) AllReadyH.nil)
    · go_simp
      refine (clone_iq A cap l _ hl (HSB.out _ hHeld)).mono ?_
      rintro e u1 ⟨⟨A1, c1, rfl, hown0⟩, hk1⟩
      have hKeep := since_step hHeld hk1
      have hown1 := own_base hown0 hHeld.size
      go_wp2_with fail
      refine hK.out _ _ (by (try dsimp only); exact hKeep) (fun hHeld => ?_)
      clear hK K hKeep
      try simp only [Act.put, List.setIfInBounds_toArray, List.set_cons_zero, List.set_cons_succ]
      refine wpAnyH_ready (rs := [3]) (by kernel_rfl) (by simp) ?_
      refine AllReadyH.cons (o := { dst := some 16, op := _, type := _, pos := _, after := _, guard := _ }) rfl (fun K hK => ?_) AllReadyH.nil
      have hHd := hHeld
      obtain ⟨g0, g1, g2, g3, g4⟩ := (HXB.out _ hHd).got; have ha9 := HAB.out _ hHd
      have hA := since_alloc hHeld (.cells x.cells.toArray 25)
      have hKeep := hA
      have HV := Iq.Bx.new u1 x
      have hown1 := hown1.alloc (.cells x.cells.toArray 25)
      skip
      go_simp
      refine hK.out _ _ (by (try dsimp only); exact hKeep) (fun hHeld => ?_)
      clear hK K hKeep
      try simp only [Act.put, List.setIfInBounds_toArray, List.set_cons_zero, List.set_cons_succ]
      refine wpAnyH_ready (rs := [4]) (by kernel_rfl) (by simp) ?_
      refine AllReadyH.cons (o := { dst := some 17, op := _, type := _, pos := _, after := _, guard := _ }) rfl (fun K hK => ?_) AllReadyH.nil
      refine step_app rfl (.tmp 14) (.tmp 16) rfl EIq (n := l.length) (m := 1) (c := c1) (d := 1) (A := A1) (B := some ⟨u1.heap.size, 0, none⟩) (by simp [Act.eval, Act.put]; done) (by simp [Act.eval, Act.put]; done) hown1 (by rw [Iq.len]) HV.sl (Iq.one x) (by unfold maxLen; omega) (by omega) hHeld.size ?_
      intro A2 c2 u2 hown2 hg2 hb2
      have hKeep := since_step (Below.refl W.heap.size W) (hHeld.trans hb2)
      refine hK.out _ _ (by (try dsimp only); exact hKeep) (fun hHeld => ?_)
      clear hK K hKeep
      try simp only [Act.put, List.setIfInBounds_toArray, List.set_cons_zero, List.set_cons_succ]
      refine wpAnyH_take (i := 5) (oi := { dst := some 6, op := _, type := _, pos := _, after := _, guard := _ }) (v := ?_) rfl (by kernel_rfl) (by kernel_rfl) (by kernel_rfl) (fun _ _ _ h => h) (Or.inl ⟨by rfl, ?_⟩) hHeld ?_
      rotate_left
      · (intro w hSw; obtain ⟨g0, g1, g2, g3, g4⟩ := (HXB.out _ hSw).got; have ha9 := HAB.out _ hSw; go_simp <;> with_reducible rfl)
      try simp only [Act.put, List.setIfInBounds_toArray, List.set_cons_zero, List.set_cons_succ]
      refine wpAnyH_done (by kernel_rfl) ?_ _
      have hB3 := hB2.trans (hHeld.mono hBW)
      go_wp2_with fail
      go_ret
      refine ⟨⟨A2, c2, ?_, ?_⟩, hB3⟩
      · rw [HPL.out, List.length_append]; rfl
      · rw [HPL.out, List.length_append, rc_append]
        have := own_base hown2 hBW
        simpa [rc] using this
    · have hHd := hHeld
      obtain ⟨g0, g1, g2, g3, g4⟩ := (HXB.out _ hHd).got; have ha9 := HAB.out _ hHd
      have hA := since_alloc hHeld (.cells x.cells.toArray 25)
      have hKeep := hA
      have HV := Iq.Bx.new W.drew x
      skip
      go_simp
      refine hK.out _ _ (by (try dsimp only); exact hKeep) (fun hHeld => ?_)
      clear hK K hKeep
      try simp only [Act.put, List.setIfInBounds_toArray, List.set_cons_zero, List.set_cons_succ]
      refine wpAnyH_ready (rs := [1]) (by kernel_rfl) (by simp) ?_
      refine AllReadyH.cons (o := { dst := some 14, op := _, type := _, pos := _, after := _, guard := _ }) rfl (fun K hK => ?_) AllReadyH.nil
      go_simp
      refine (clone_iq A cap l _ hl (HSB.out _ hHeld)).mono ?_
      rintro e u1 ⟨⟨A1, c1, rfl, hown0⟩, hk1⟩
      have hKeep := since_step hHeld hk1
      have hown1 := own_base hown0 hHeld.size
      have hvb1 := HV.lt
      have HV := HV.below hk1
      go_wp2_with fail
      refine hK.out _ _ (by (try dsimp only); exact hKeep) (fun hHeld => ?_)
      clear hK K hKeep
      try simp only [Act.put, List.setIfInBounds_toArray, List.set_cons_zero, List.set_cons_succ]
      refine wpAnyH_ready (rs := [4]) (by kernel_rfl) (by simp) ?_
      refine AllReadyH.cons (o := { dst := some 17, op := _, type := _, pos := _, after := _, guard := _ }) rfl (fun K hK => ?_) AllReadyH.nil
      refine step_app rfl (.tmp 14) (.tmp 16) rfl EIq (n := l.length) (m := 1) (c := c1) (d := 1) (A := A1) (B := some ⟨W.drew.heap.size, 0, none⟩) (by simp [Act.eval, Act.put]; done) (by simp [Act.eval, Act.put]; done) hown1 (by rw [Iq.len]) HV.sl (Iq.one x) (by unfold maxLen; omega) (by omega) hHeld.size ?_
      intro A2 c2 u2 hown2 hg2 hb2
      have hKeep := since_step (Below.refl W.heap.size W) (hHeld.trans hb2)
      refine hK.out _ _ (by (try dsimp only); exact hKeep) (fun hHeld => ?_)
      clear hK K hKeep
      try simp only [Act.put, List.setIfInBounds_toArray, List.set_cons_zero, List.set_cons_succ]
      refine wpAnyH_take (i := 5) (oi := { dst := some 6, op := _, type := _, pos := _, after := _, guard := _ }) (v := ?_) rfl (by kernel_rfl) (by kernel_rfl) (by kernel_rfl) (fun _ _ _ h => h) (Or.inl ⟨by rfl, ?_⟩) hHeld ?_
      rotate_left
      · (intro w hSw; obtain ⟨g0, g1, g2, g3, g4⟩ := (HXB.out _ hSw).got; have ha9 := HAB.out _ hSw; go_simp <;> with_reducible rfl)
      try simp only [Act.put, List.setIfInBounds_toArray, List.set_cons_zero, List.set_cons_succ]
      refine wpAnyH_done (by kernel_rfl) ?_ _
      have hB3 := hB2.trans (hHeld.mono hBW)
      go_wp2_with fail
      go_ret
      refine ⟨⟨A2, c2, ?_, ?_⟩, hB3⟩
      · rw [HPL.out, List.length_append]; rfl
      · rw [HPL.out, List.length_append, rc_append]
        have := own_base hown2 hBW
        simpa [rc] using this
  · rw [h0]
    obtain ⟨q, hq⟩ : ∃ q, ah x l[k] = q := ⟨_, rfl⟩
    have HPL := Lib.hid (putL_some (ah := ah) (x := x) hk (fun j hj => hno j hj) hpk)
    have HQ := Lib.hid hq
    have hk64 : (k : Int) < (l.length : Int) := by omega
    have hk0 : ¬ ((k : Int) < 0) := by omega
    obtain ⟨b, o, rfl, hbw, hg⟩ := hs2.iq hk
    have hbW : b < W.heap.size := hbw
    have HEL : Hid (∀ V, Below W.heap.size W V → l[k].at V b (o + k * 5)) := Lib.hid fun V hV => Iq.at_keep (w := W) hg fun i => hV.cell (p := ⟨b, i, none⟩) hbW
    clear h0 hno hx2 ha2 hs2 hp2 hpk hg hbw hq
    go_wp2_with fail
    refine wp_region_held_drew (S := (fun V => Below W.heap.size W V)) (by kernel_rfl) (by exact (Below.refl _ _).drew) (fun hHeld => ?_)
    refine wpAnyH_take (i := 0) (oi := { dst := some 18, op := _, type := _, pos := _, after := _, guard := _ }) (v := ?_) rfl (by kernel_rfl) (by kernel_rfl) (by kernel_rfl) (fun _ _ _ h => h) (Or.inl ⟨by rfl, ?_⟩) hHeld ?_
    rotate_left
    · (intro w hSw; obtain ⟨g0, g1, g2, g3, g4⟩ := (HXB.out _ hSw).got; have ha9 := HAB.out _ hSw; obtain ⟨h0, h1, h2, h3, h4⟩ := HEL.out _ hSw; go_simp <;> with_reducible rfl)
    try simp only [Act.put, List.setIfInBounds_toArray, List.set_cons_zero, List.set_cons_succ]
    refine wpAnyH_take (i := 1) (oi := { dst := some 19, op := _, type := _, pos := _, after := _, guard := _ }) (v := ?_) rfl (by kernel_rfl) (by kernel_rfl) (by kernel_rfl) (fun _ _ _ h => h) (Or.inl ⟨by rfl, ?_⟩) hHeld ?_
    rotate_left
    · (intro w hSw; obtain ⟨g0, g1, g2, g3, g4⟩ := (HXB.out _ hSw).got; have ha9 := HAB.out _ hSw; obtain ⟨h0, h1, h2, h3, h4⟩ := HEL.out _ hSw; go_simp <;> with_reducible rfl)
    try simp only [Act.put, List.setIfInBounds_toArray, List.set_cons_zero, List.set_cons_succ]
    refine wpAnyH_take (i := 2) (oi := { dst := some 20, op := _, type := _, pos := _, after := _, guard := _ }) (v := ?_) rfl (by kernel_rfl) (by kernel_rfl) (by kernel_rfl) (fun _ _ _ h => h) (Or.inl ⟨by rfl, ?_⟩) hHeld ?_
    rotate_left
    · (intro w hSw; obtain ⟨g0, g1, g2, g3, g4⟩ := (HXB.out _ hSw).got; have ha9 := HAB.out _ hSw; obtain ⟨h0, h1, h2, h3, h4⟩ := HEL.out _ hSw; go_simp <;> with_reducible rfl)
    try simp only [Act.put, List.setIfInBounds_toArray, List.set_cons_zero, List.set_cons_succ]
    refine wpAnyH_take (i := 3) (oi := { dst := some 21, op := _, type := _, pos := _, after := _, guard := _ }) (v := ?_) rfl (by kernel_rfl) (by kernel_rfl) (by kernel_rfl) (fun _ _ _ h => h) (Or.inl ⟨by rfl, ?_⟩) hHeld ?_
    rotate_left
    · (intro w hSw; obtain ⟨g0, g1, g2, g3, g4⟩ := (HXB.out _ hSw).got; have ha9 := HAB.out _ hSw; obtain ⟨h0, h1, h2, h3, h4⟩ := HEL.out _ hSw; go_simp <;> with_reducible rfl)
    try simp only [Act.put, List.setIfInBounds_toArray, List.set_cons_zero, List.set_cons_succ]
    refine wpAnyH_take (i := 4) (oi := { dst := some 22, op := _, type := _, pos := _, after := _, guard := _ }) (v := ?_) rfl (by kernel_rfl) (by kernel_rfl) (by kernel_rfl) (fun _ _ _ h => h) (Or.inl ⟨by rfl, ?_⟩) hHeld ?_
    rotate_left
    · (intro w hSw; obtain ⟨g0, g1, g2, g3, g4⟩ := (HXB.out _ hSw).got; have ha9 := HAB.out _ hSw; obtain ⟨h0, h1, h2, h3, h4⟩ := HEL.out _ hSw; go_simp <;> with_reducible rfl)
    try simp only [Act.put, List.setIfInBounds_toArray, List.set_cons_zero, List.set_cons_succ]
    refine wpAnyH_take (i := 5) (oi := { dst := some 23, op := _, type := _, pos := _, after := _, guard := _ }) (v := ?_) rfl (by kernel_rfl) (by kernel_rfl) (by kernel_rfl) (fun _ _ _ h => h) (Or.inl ⟨by rfl, ?_⟩) hHeld ?_
    rotate_left
    · (intro w hSw; obtain ⟨g0, g1, g2, g3, g4⟩ := (HXB.out _ hSw).got; have ha9 := HAB.out _ hSw; obtain ⟨h0, h1, h2, h3, h4⟩ := HEL.out _ hSw; go_simp <;> with_reducible rfl)
    try simp only [Act.put, List.setIfInBounds_toArray, List.set_cons_zero, List.set_cons_succ]
    refine wpAnyH_ready (rs := [6]) (by kernel_rfl) (by simp) ?_
    refine AllReadyH.cons (o := { dst := some 24, op := _, type := _, pos := _, after := _, guard := _ }) rfl (fun K hK => ?_) AllReadyH.nil
    go_simp
    rw [hF, Oper.upon_enter]
    refine (HPB.out _ hHeld x l[k]).mono ?_
    rintro e u1 ⟨rfl, hk1⟩
    have hKeep := since_step hHeld hk1
    rw [HQ.out]
    go_wp2_with fail
    refine hK.out _ _ (by (try dsimp only); exact hKeep) (fun hHeld => ?_)
    clear hK K hKeep
    try simp only [Act.put, List.setIfInBounds_toArray, List.set_cons_zero, List.set_cons_succ]
    refine wpAnyH_done (by kernel_rfl) ?_ _
    have hHW := hHeld
    generalize hUU : u1 = U at hHeld hHW
    cases q with
    | true =>
      subst hUU
      obtain ⟨U, hU⟩ : ∃ U, U = u1 := ⟨_, rfl⟩
      rw [← hU] at hHeld ⊢
      clear hU
      go_wp2_with fail
      refine wp_region_held_drew (S := (fun V => Below W.heap.size W V)) (by kernel_rfl) (by exact hHeld.drew) (fun hHeld => ?_)
      refine wpAnyH_take (i := 0) (oi := { dst := some 25, op := _, type := _, pos := _, after := _, guard := _ }) (v := ?_) rfl (by kernel_rfl) (by kernel_rfl) (by kernel_rfl) (fun _ _ _ h => h) (Or.inl ⟨by rfl, ?_⟩) hHeld ?_
      rotate_left
      · (intro w hSw; obtain ⟨g0, g1, g2, g3, g4⟩ := (HXB.out _ hSw).got; have ha9 := HAB.out _ hSw; go_simp <;> with_reducible rfl)
      try simp only [Act.put, List.setIfInBounds_toArray, List.set_cons_zero, List.set_cons_succ]
      refine wpAnyH_take (i := 2) (oi := { dst := some 27, op := _, type := _, pos := _, after := _, guard := _ }) (v := ?_) rfl (by kernel_rfl) (by kernel_rfl) (by kernel_rfl) (fun _ _ _ h => h) (Or.inl ⟨by rfl, ?_⟩) hHeld ?_
      rotate_left
      · (intro w hSw; obtain ⟨g0, g1, g2, g3, g4⟩ := (HXB.out _ hSw).got; have ha9 := HAB.out _ hSw; go_simp <;> with_reducible rfl)
      try simp only [Act.put, List.setIfInBounds_toArray, List.set_cons_zero, List.set_cons_succ]
      refine wpAnyH_take (i := 3) (oi := { dst := some 28, op := _, type := _, pos := _, after := _, guard := _ }) (v := ?_) rfl (by kernel_rfl) (by kernel_rfl) (by kernel_rfl) (fun _ _ _ h => h) (Or.inl ⟨by rfl, ?_⟩) hHeld ?_
      rotate_left
      · (intro w hSw; obtain ⟨g0, g1, g2, g3, g4⟩ := (HXB.out _ hSw).got; have ha9 := HAB.out _ hSw; go_simp <;> with_reducible rfl)
      try simp only [Act.put, List.setIfInBounds_toArray, List.set_cons_zero, List.set_cons_succ]
      refine wpAnyH_ready (rs := [1, 4]) (by kernel_rfl) (by simp) ?_
      refine AllReadyH.cons (o := { dst := some 26, op := _, type := _, pos := _, after := _, guard := _ }) rfl (fun K hK => ?_) (AllReadyH.cons (o := { dst := some 29, op := _, type := _, pos := _, after := _, guard := _ }) rfl (fun K hK => ?_) AllReadyH.nil)
      · go_simp
        refine (clone_iq (some ⟨b, o, none⟩) cap l _ hl (HSB.out _ hHeld)).mono ?_
        rintro e v1 ⟨⟨A1, c1, rfl, hown0⟩, hk1⟩
        have hKeep := since_step hHeld hk1
        obtain ⟨gb, rfl, hgb1, hgb2, hgb3⟩ := own_at hown0 (by omega)
        have hown1 := own_base hown0 hHeld.size
        go_wp2_with fail
        refine hK.out _ _ (by (try dsimp only); exact hKeep) (fun hHeld => ?_)
        clear hK K hKeep
        try simp only [Act.put, List.setIfInBounds_toArray, List.set_cons_zero, List.set_cons_succ]
        refine wpAnyH_ready (rs := [4]) (by kernel_rfl) (by simp) ?_
        refine AllReadyH.cons (o := { dst := some 29, op := _, type := _, pos := _, after := _, guard := _ }) rfl (fun K hK => ?_) AllReadyH.nil
        have hHd := hHeld
        obtain ⟨g0, g1, g2, g3, g4⟩ := (HXB.out _ hHd).got; have ha9 := HAB.out _ hHd
        have hA := since_alloc hHeld (.cells x.cells.toArray 25)
        have hKeep := hA
        have HV := Iq.Bx.new v1 x
        have hown1 := hown1.alloc (.cells x.cells.toArray 25)
        have hne : v1.heap.size ≠ gb := by omega
        skip
        go_simp
        refine hK.out _ _ (by (try dsimp only); exact hKeep) (fun hHeld => ?_)
        clear hK K hKeep
        try simp only [Act.put, List.setIfInBounds_toArray, List.set_cons_zero, List.set_cons_succ]
        refine wpAnyH_ready (rs := [5]) (by kernel_rfl) (by simp) ?_
        refine AllReadyH.cons (o := { dst := some 30, op := _, type := _, pos := _, after := _, guard := _ }) rfl (fun K hK => ?_) AllReadyH.nil
        go_simp
        refine (insert_iq W.heap.size gb k l.length c1 (v1.heap.size) 1 l x _ rfl hl hk hown1 HV.hp hne hHeld.size).mono ?_
        rintro e v2 ⟨⟨A2, c2, rfl, hown2⟩, hb2⟩
        have hKeep := since_step (Below.refl W.heap.size W) (hHeld.trans hb2)
        go_wp2_with fail
        refine hK.out _ _ (by (try dsimp only); exact hKeep) (fun hHeld => ?_)
        clear hK K hKeep
        try simp only [Act.put, List.setIfInBounds_toArray, List.set_cons_zero, List.set_cons_succ]
        refine wpAnyH_take (i := 6) (oi := { dst := some 6, op := _, type := _, pos := _, after := _, guard := _ }) (v := ?_) rfl (by kernel_rfl) (by kernel_rfl) (by kernel_rfl) (fun _ _ _ h => h) (Or.inl ⟨by rfl, ?_⟩) hHeld ?_
        rotate_left
        · (intro w hSw; obtain ⟨g0, g1, g2, g3, g4⟩ := (HXB.out _ hSw).got; have ha9 := HAB.out _ hSw; go_simp <;> with_reducible rfl)
        try simp only [Act.put, List.setIfInBounds_toArray, List.set_cons_zero, List.set_cons_succ]
        refine wpAnyH_done (by kernel_rfl) ?_ _
        have hB3 := hB2.trans (hHeld.mono hBW)
        go_wp2_with fail
        go_ret
        have hln : (l.take k ++ x :: l.drop k).length = l.length + 1 := by simp; omega
        refine ⟨⟨A2, c2, ?_, ?_⟩, hB3⟩
        · rw [HPL.out, HQ.out, if_pos rfl, hln]; rfl
        · rw [HPL.out, HQ.out, if_pos rfl, hln]
          exact own_base hown2 hBW
      · have hHd := hHeld
        obtain ⟨g0, g1, g2, g3, g4⟩ := (HXB.out _ hHd).got; have ha9 := HAB.out _ hHd
        have hA := since_alloc hHeld (.cells x.cells.toArray 25)
        have hKeep := hA
        have HV := Iq.Bx.new U.drew x
        skip
        go_simp
        refine hK.out _ _ (by (try dsimp only); exact hKeep) (fun hHeld => ?_)
        clear hK K hKeep
        try simp only [Act.put, List.setIfInBounds_toArray, List.set_cons_zero, List.set_cons_succ]
        refine wpAnyH_ready (rs := [1]) (by kernel_rfl) (by simp) ?_
        refine AllReadyH.cons (o := { dst := some 26, op := _, type := _, pos := _, after := _, guard := _ }) rfl (fun K hK => ?_) AllReadyH.nil
        go_simp
        refine (clone_iq (some ⟨b, o, none⟩) cap l _ hl (HSB.out _ hHeld)).mono ?_
        rintro e v1 ⟨⟨A1, c1, rfl, hown0⟩, hk1⟩
        have hKeep := since_step hHeld hk1
        obtain ⟨gb, rfl, hgb1, hgb2, hgb3⟩ := own_at hown0 (by omega)
        have hown1 := own_base hown0 hHeld.size
        have hvb1 := HV.lt
        have hne : U.drew.heap.size ≠ gb := by have h1 := hgb1; simp only [World.size_drew, World.size_alloc] at h1 ⊢; omega
        have HV := HV.below hk1
        go_wp2_with fail
        refine hK.out _ _ (by (try dsimp only); exact hKeep) (fun hHeld => ?_)
        clear hK K hKeep
        try simp only [Act.put, List.setIfInBounds_toArray, List.set_cons_zero, List.set_cons_succ]
        refine wpAnyH_ready (rs := [5]) (by kernel_rfl) (by simp) ?_
        refine AllReadyH.cons (o := { dst := some 30, op := _, type := _, pos := _, after := _, guard := _ }) rfl (fun K hK => ?_) AllReadyH.nil
        go_simp
        refine (insert_iq W.heap.size gb k l.length c1 (U.drew.heap.size) 1 l x _ rfl hl hk hown1 HV.hp hne hHeld.size).mono ?_
        rintro e v2 ⟨⟨A2, c2, rfl, hown2⟩, hb2⟩
        have hKeep := since_step (Below.refl W.heap.size W) (hHeld.trans hb2)
        go_wp2_with fail
        refine hK.out _ _ (by (try dsimp only); exact hKeep) (fun hHeld => ?_)
        clear hK K hKeep
        try simp only [Act.put, List.setIfInBounds_toArray, List.set_cons_zero, List.set_cons_succ]
        refine wpAnyH_take (i := 6) (oi := { dst := some 6, op := _, type := _, pos := _, after := _, guard := _ }) (v := ?_) rfl (by kernel_rfl) (by kernel_rfl) (by kernel_rfl) (fun _ _ _ h => h) (Or.inl ⟨by rfl, ?_⟩) hHeld ?_
        rotate_left
        · (intro w hSw; obtain ⟨g0, g1, g2, g3, g4⟩ := (HXB.out _ hSw).got; have ha9 := HAB.out _ hSw; go_simp <;> with_reducible rfl)
        try simp only [Act.put, List.setIfInBounds_toArray, List.set_cons_zero, List.set_cons_succ]
        refine wpAnyH_done (by kernel_rfl) ?_ _
        have hB3 := hB2.trans (hHeld.mono hBW)
        go_wp2_with fail
        go_ret
        have hln : (l.take k ++ x :: l.drop k).length = l.length + 1 := by simp; omega
        refine ⟨⟨A2, c2, ?_, ?_⟩, hB3⟩
        · rw [HPL.out, HQ.out, if_pos rfl, hln]; rfl
        · rw [HPL.out, HQ.out, if_pos rfl, hln]
          exact own_base hown2 hBW
    | false =>
      subst hUU
      obtain ⟨g0, g1, g2, g3, g4⟩ := (HXB.out _ hHeld).got
      go_wp2_with fail
      refine (set_iq (some ⟨b, o, none⟩) cap l k x _ hl hk (HSB.out _ hHeld)).mono ?_
      rintro e v2 ⟨⟨A2, c2, rfl, hown2⟩, hb2⟩
      have hB3 := hB2.trans ((since_step hHeld hb2).mono hBW)
      go_wp2_with fail
      go_ret
      refine ⟨⟨A2, c2, ?_, ?_⟩, hB3⟩
      · rw [HPL.out, HQ.out, if_neg (by decide), List.length_set]; rfl
      · rw [HPL.out, HQ.out, if_neg (by decide), List.length_set]
        exact own_base hown2 (Nat.le_trans hBW hHeld.size)
end Go.Proofs.YtldnponbkhgijaaDoor
end
section
namespace Go.Proofs.YtldnponbkhgijaaDoor
open Go.ChangeShapes Go.WideShapes Go.ChangeAt Go.RowKit
set_option linter.unusedVariables false
set_option linter.unusedSimpArgs false

structure Sx where
  (n : Int)
deriving DecidableEq
def Sx.cells (g : Sx) : List Value := [.int .i64 g.n]
def Sx.val (g : Sx) : Value := .int .i64 g.n
def Sx.zero : Sx := ⟨0⟩
theorem Sx.len (g : Sx) : g.cells.length = 1 := rfl
theorem Sx.one (g : Sx) : ∀ u ∈ g.cells, u.oneCell' = true := by
  intro u hu
  simp only [Sx.cells, List.mem_cons, List.not_mem_nil, or_false] at hu
  subst hu; rfl
def Sx.at (g : Sx) (w : World) (b o : Nat) : Prop :=
  w.cell? ⟨b, o, none⟩ = some (.int .i64 g.n) ∧ True
theorem Sx.at_of {w : World} {b o : Nat} {g : Sx} (h : ∀ j u, g.cells[j]? = some u → w.cell? ⟨b, o + j, none⟩ = some u) : g.at w b o :=
  ⟨h 0 _ rfl, trivial⟩
theorem Sx.at_keep {w w' : World} {b o : Nat} {g : Sx} (h : g.at w b o) (k : ∀ i, w'.cell? ⟨b, i, none⟩ = w.cell? ⟨b, i, none⟩) : g.at w' b o := by
  unfold Sx.at at *
  simp only [k]
  exact h
theorem Sl.sx {w : World} {A : Option Addr} {l : List Sx} (h : Sl w A (rc Sx.cells l)) {k : Nat} (hk : k < l.length) : ∃ b o, A = some ⟨b, o, none⟩ ∧ b < w.heap.size ∧ l[k].at w b (o + k) := by
  obtain ⟨b, o, hA, hb, hc⟩ := Sl.elem (m := 1) Sx.len (by decide) h hk
  exact ⟨b, o, hA, hb, Sx.at_of (by simpa only [Nat.mul_one] using hc)⟩
theorem ESx : Elem Tryd.prog 23 2 1 8 := Elem.mk' (z := .int .i64 0) (by kernel_rfl) (by kernel_rfl) (by decide) (by decide)
def Sx.Tells (F : Nat) (caps : Array Value) (p : Sx → Bool) (B : Nat) (w : World) : Prop :=
  ∀ (g : Sx) (W : World), Below B w W → Calls Tryd.prog F (#[g.val] ++ caps) W fun e w' => e = .returned (.bool (p g)) ∧ Below W.heap.size W w'
theorem Sx.Tells.below {F : Nat} {caps : Array Value} {p : Sx → Bool} {B : Nat} {w w1 : World} (h : Sx.Tells F caps p B w) (hb : Below B w w1) {C : Nat} (hC : B ≤ C) : Sx.Tells F caps p C w1 :=
  fun g W hW => h g W (hb.trans (hW.mono hC))
set_option maxHeartbeats 1000000 in
set_option maxRecDepth 100000 in
theorem clone_sx (A : Option Addr) (cap : Nat) (l : List Sx) (w : World) (hl : l.length ≤ 1000000) (hs : Sl w A (rc Sx.cells l)) :
    Calls Tryd.prog 38 #[.slice A l.length cap] w fun e w' => (∃ A' c', e = .returned (.slice A' l.length c') ∧ w'.ownsRow w.heap.size 2 1 (.slice A' l.length c') l.length (rc Sx.cells l)) ∧ Below w.heap.size w w' := by
  cases A with
  | none =>
    have hn : l = [] := by
      cases l with
      | nil => rfl
      | cons g m => obtain ⟨b, o, e, _⟩ := hs.sx (k := 0) (by simp); cases e
    subst hn
    have hnil := fun w : World => Go.Lib.run_eql_slice_nil (P := Tryd.prog) w 23 2 none 0 cap 0 0 ESx.und
    go_enter Tryd.func38, Tryd.ntmps38
    go_wp2_with fail
    go_ret
    exact ⟨⟨none, 0, rfl, own_nil _ _ _⟩, Below.refl _ _⟩
  | some ad =>
    have hnil := fun w : World => Go.Lib.run_eql_slice_nil (P := Tryd.prog) w 23 2 (some ad) l.length cap 0 0 ESx.und
    go_enter Tryd.func38, Tryd.ntmps38
    go_wp2_with (first
      | (at_builtin; refine wpList_app rfl (.tmp 5) (.tmp 6) rfl ESx rfl rfl (World.ownsRow_made (w := w) #[] 0 (Nat.le_refl _) (Nat.zero_le _) rfl) (rc_length Sx.len l) (hs.alloc _) (rc_one Sx.one l) (by unfold maxLen; omega) (by omega) (by simp) ?_; intro A2 c2 w2 hown2 hg2 hb2; simp only [Nat.zero_add, List.nil_append] at hown2)
      | fail)
    refine bodyPost_ret (results_tmp rfl _ _ _) rfl ⟨⟨A2, c2, by simp, by simpa using hown2⟩, ?_⟩
    exact Below.trans ((Below.refl _ _).alloc (Nat.le_refl _) _) hb2
end Go.Proofs.YtldnponbkhgijaaDoor
end
section
namespace Go.Proofs.YtldnponbkhgijaaDoor
open Go.ChangeShapes Go.WideShapes Go.ChangeAt Go.RowKit
set_option linter.unusedVariables false
set_option linter.unusedSimpArgs false

def Sx.Tells2 (F : Nat) (caps : Array Value) (ah : Sx → Sx → Bool) (B : Nat) (w : World) : Prop :=
  ∀ (a b : Sx) (W : World), Below B w W → Calls Tryd.prog F (#[a.val, b.val] ++ caps) W fun e w' => e = .returned (.bool (ah a b)) ∧ Below W.heap.size W w'
theorem Sx.Tells2.below {F : Nat} {caps : Array Value} {ah : Sx → Sx → Bool} {B : Nat} {w w1 : World} (h : Sx.Tells2 F caps ah B w) (hb : Below B w w1) {C : Nat} (hC : B ≤ C) : Sx.Tells2 F caps ah C w1 :=
  fun a b W hW => h a b W (hb.trans (hW.mono hC))
structure Sx.Bx (w : World) (b : Nat) (g : Sx) : Prop where
  lt : b < w.heap.size
  at_ : g.at w b 0
  hp : w.heap[b]? = some (.cells g.cells.toArray 2 (0, 0))
theorem Sx.Bx.new (w : World) (g : Sx) : Sx.Bx (w.alloc (.cells g.cells.toArray 2)) w.heap.size g := by
  have h := heap_alloc_new w (.cells g.cells.toArray 2 (0, 0))
  refine ⟨by simp, Sx.at_of fun j u hu => ?_, h⟩
  rw [Nat.zero_add, cell_of_row _ _ j g.cells.toArray 2 (0, 0) h]
  simpa using hu
theorem Sx.Bx.below {w w' : World} {b : Nat} {g : Sx} (h : Sx.Bx w b g) (hb : Below w.heap.size w w') : Sx.Bx w' b g :=
  ⟨Nat.lt_of_lt_of_le h.lt hb.size, Sx.at_keep h.at_ fun i => hb.cell (p := ⟨b, i, none⟩) h.lt, (hb.block b h.lt).trans h.hp⟩
theorem Sx.Bx.sl {w : World} {b : Nat} {g : Sx} (h : Sx.Bx w b g) : Sl w (some ⟨b, 0, none⟩) g.cells := by
  intro _
  refine ⟨b, 0, rfl, fun j u hu => ?_⟩
  rw [Nat.zero_add, cell_of_row _ _ j g.cells.toArray 2 (0, 0) h.hp]
  simpa using hu
theorem Sx.Bx.got {w : World} {b : Nat} {g : Sx} (h : Sx.Bx w b g) : w.cell? ⟨b, 0, none⟩ = some (.int .i64 g.n) ∧ True := by
  have := h.at_
  unfold Sx.at at this
  simpa only [Nat.zero_add] using this
end Go.Proofs.YtldnponbkhgijaaDoor
end
section
namespace Go.Proofs.YtldnponbkhgijaaDoor
open Go.ChangeShapes Go.WideShapes Go.ChangeAt Go.RowKit
set_option linter.unusedVariables false
set_option linter.unusedSimpArgs false
section
variable {α : Type}
def putR (ah : α → α → Bool) : List α → α → List α
  | [], x => [x]
  | a :: r, x => if ah a x then a :: putR ah r x else if ah x a then x :: a :: r else x :: r
theorem putL_eq (ah : α → α → Bool) (x : α) : ∀ l : List α, putL ah l x = putR ah l x := by
  intro l
  induction l with
  | nil => rfl
  | cons a r ih =>
    unfold putR
    by_cases h : ah a x = true
    · rw [if_pos h, ← ih]
      unfold putL
      rw [List.findIdx?_cons, h]
      simp only [Bool.not_true, Bool.false_eq_true, if_false]
      cases hf : r.findIdx? (fun y => !ah y x) with
      | none => simp
      | some k =>
        have hk : k < r.length := by rw [List.findIdx?_eq_some_iff_getElem] at hf; exact hf.1
        simp only [Option.map_some, List.getElem?_cons_succ, List.getElem?_eq_getElem hk]
        split <;> simp
    · have h' : ah a x = false := by simpa using h
      rw [if_neg h]
      unfold putL
      rw [List.findIdx?_cons, h']
      simp only [Bool.not_false, if_true, List.getElem?_cons_zero]
      split <;> simp
structure Ord (ah : α → α → Bool) : Prop where
  tr : ∀ a b c, ah a b = true → ah b c = true → ah a c = true
  asy : ∀ a b, ah a b = true → ah b a = false
  cong : ∀ a x b, ah a x = false → ah x a = false → ah a b = ah x b
  cong2 : ∀ a x b, ah a x = false → ah x a = false → ah b a = ah b x
def eqv (ah : α → α → Bool) (x y : α) : Bool := !ah x y && !ah y x
theorem mem_putR {ah : α → α → Bool} (x : α) : ∀ (l : List α) (y : α), y ∈ putR ah l x → y = x ∨ y ∈ l
  | [], y, h => by simp [putR] at h; exact .inl h
  | a :: r, y, h => by
    unfold putR at h
    split at h
    · rcases List.mem_cons.1 h with h | h
      · exact .inr (by simp [h])
      · rcases mem_putR x r y h with h | h
        · exact .inl h
        · exact .inr (by simp [h])
    · split at h
      · rcases List.mem_cons.1 h with h | h
        · exact .inl h
        · exact .inr h
      · rcases List.mem_cons.1 h with h | h
        · exact .inl h
        · exact .inr (by simp [h])
theorem pairwise_putR {ah : α → α → Bool} (o : Ord ah) (x : α) : ∀ (l : List α), l.Pairwise (fun a b => ah a b = true) → (putR ah l x).Pairwise (fun a b => ah a b = true)
  | [], _ => by simp [putR]
  | a :: r, hp => by
    have ha : ∀ b ∈ r, ah a b = true := fun b hb => List.rel_of_pairwise_cons hp hb
    unfold putR
    by_cases h : ah a x = true
    · rw [if_pos h]
      refine List.Pairwise.cons (fun b hb => ?_) (pairwise_putR o x r hp.of_cons)
      rcases mem_putR x r b hb with rfl | hb
      · exact h
      · exact ha b hb
    · rw [if_neg h]
      have h' : ah a x = false := by simpa using h
      by_cases h2 : ah x a = true
      · rw [if_pos h2]
        refine List.Pairwise.cons (fun b hb => ?_) hp
        rcases List.mem_cons.1 hb with rfl | hb
        · exact h2
        · exact o.tr _ _ _ h2 (ha b hb)
      · rw [if_neg h2]
        have h2' : ah x a = false := by simpa using h2
        exact List.Pairwise.cons (fun b hb => by rw [← o.cong a x b h' h2']; exact ha b hb) hp.of_cons
theorem length_putR {ah : α → α → Bool} (x : α) : ∀ (l : List α), (putR ah l x).length ≤ l.length + 1
  | [] => by simp [putR]
  | a :: r => by
    have := length_putR (ah := ah) x r
    unfold putR
    split
    · simp; omega
    · split <;> simp
def refPut (ah : α → α → Bool) (l : List α) (x : α) : List α :=
  (l.filter fun y => !eqv ah x y).take ((l.filter fun y => !eqv ah x y).findIdx fun y => !ah y x) ++ x :: (l.filter fun y => !eqv ah x y).drop ((l.filter fun y => !eqv ah x y).findIdx fun y => !ah y x)
theorem refPut_eq {ah : α → α → Bool} (o : Ord ah) (x : α) : ∀ l : List α, l.Pairwise (fun a b => ah a b = true) → refPut ah l x = putR ah l x := by
  intro l
  induction l with
  | nil => intro _; simp [refPut, putR]
  | cons a r ih =>
    intro hp
    have hr := hp.of_cons
    have ha : ∀ b ∈ r, ah a b = true := fun b hb => List.rel_of_pairwise_cons hp hb
    unfold putR
    by_cases h : ah a x = true
    · rw [if_pos h, ← ih hr]
      have h2 := o.asy _ _ h
      unfold refPut
      rw [List.filter_cons]
      have he : eqv ah x a = false := by simp [eqv, h]
      simp only [he, Bool.not_false, if_true, List.findIdx_cons, h, Bool.not_true, cond_false, List.take_succ_cons, List.drop_succ_cons, List.cons_append]
    · have h' : ah a x = false := by simpa using h
      rw [if_neg h]
      have hall : ∀ b ∈ r, ah x b = true → eqv ah x b = false ∧ ah b x = false := fun b hb hxb => ⟨by simp [eqv, hxb], o.asy _ _ hxb⟩
      by_cases h2 : ah x a = true
      · rw [if_pos h2]
        have hf : (a :: r).filter (fun y => !eqv ah x y) = a :: r := by
          rw [List.filter_eq_self]
          intro b hb
          rcases List.mem_cons.1 hb with rfl | hb
          · simp [eqv, h2]
          · simp [eqv, o.tr _ _ _ h2 (ha b hb)]
        unfold refPut
        rw [hf, List.findIdx_cons, h']
        simp
      · have h2' : ah x a = false := by simpa using h2
        rw [if_neg h2]
        have hx : ∀ b ∈ r, ah x b = true := fun b hb => by rw [← o.cong a x b h' h2']; exact ha b hb
        have hf : (a :: r).filter (fun y => !eqv ah x y) = r := by
          rw [List.filter_cons]
          have he : eqv ah x a = true := by simp [eqv, h', h2']
          simp only [he, Bool.not_true, Bool.false_eq_true, if_false]
          rw [List.filter_eq_self]
          intro b hb
          simp [eqv, hx b hb]
        unfold refPut
        rw [hf]
        cases r with
        | nil => simp
        | cons b s =>
          rw [List.findIdx_cons, o.asy _ _ (hx b (by simp))]
          simp
end
end Go.Proofs.YtldnponbkhgijaaDoor
end
section
namespace Go.Proofs.YtldnponbkhgijaaDoor
open Go.ChangeShapes Go.WideShapes Go.ChangeAt Go.RowKit
set_option linter.unusedVariables false
set_option linter.unusedSimpArgs false

theorem own_kept_types {w w' : World} {B B' e e' s s' : Nat} {v v' : Value} {n n' : Nat} {xs ys : List Value} (hne : e ≠ e') (h : w.ownsRow B e s v n xs) (ho : w.ownsRow B' e' s' v' n' ys) (hg : w.grownBy w' v'.ownBlock) : w'.ownsRow B e s v n xs := by
  refine h.kept hg ?_
  rcases h.2 with ⟨rfl, _⟩ | ⟨g, cap, cur, rfl, _, hh, _⟩
  · exact .inl rfl
  · right
    rcases ho.2 with ⟨rfl, _⟩ | ⟨g', cap', cur', rfl, _, hh', _⟩
    · simp [Value.ownBlock]
    · simp only [Value.ownBlock, ne_eq, Option.some.injEq]
      intro e
      subst e
      rw [hh] at hh'
      injection hh' with hh'
      injection hh' with _ e
      exact absurd e hne
theorem own_setFar' {w : World} {B e size n : Nat} {v : Value} {xs : List Value} (h : w.ownsRow B e size v n xs) {p : Addr} (hp : p.block < B) (u : Value) : (w.setCell p u).ownsRow B e size v n xs := by
  obtain ⟨h1, h2⟩ := h
  refine ⟨h1, ?_⟩
  rcases h2 with h2 | ⟨g, cap, cur, hv, hg, hh, hr⟩
  · exact .inl h2
  · refine .inr ⟨g, cap, cur, hv, hg, ?_, hr⟩
    have hne : p.block ≠ g := by omega
    rw [← hh]
    unfold World.setCell
    simp [Array.getElem?_modify, hne]
end Go.Proofs.YtldnponbkhgijaaDoor
end
section
namespace Go.Proofs.YtldnponbkhgijaaDoor
open Go.ChangeShapes Go.WideShapes Go.ChangeAt Go.RowKit
set_option linter.unusedVariables false
set_option linter.unusedSimpArgs false

structure Ic where
  id : Int
  mult : Int
  price : Int
  nxt : Int
  L : List Sx
deriving DecidableEq
structure IqIs (w : World) (g : Iq) (c : Ic) : Prop where
  id : g.id = c.id
  mult : g.mult = c.mult
  price : g.price = c.price
  nxt : g.nxt = c.nxt
  len : g.mvL = c.L.length
  sl : Sl w g.mv (rc Sx.cells c.L)
theorem IqIs.below {w w' : World} {g : Iq} {c : Ic} (h : IqIs w g c) (hb : Below w.heap.size w w') : IqIs w' g c := ⟨h.id, h.mult, h.price, h.nxt, h.len, h.sl.below hb⟩
theorem IqIs.eq {w : World} {g : Iq} {c : Ic} (h : IqIs w g c) : g = ⟨c.id, c.mult, c.price, c.nxt, g.mv, c.L.length, g.mvC⟩ := by
  obtain ⟨a0, a1, a2, a3, e, f, k⟩ := g
  obtain ⟨h0, h1, h2, h3, h9, _⟩ := h
  simp only at h0 h1 h2 h3 h9
  subst h0; subst h1; subst h2; subst h3; subst h9; rfl
def IqTab (w : World) (l : List Iq) (cs : List Ic) : Prop := l.length = cs.length ∧ ∀ i, (h : i < l.length) → (h2 : i < cs.length) → IqIs w l[i] cs[i]
theorem IqTab.below {w w' : World} {l : List Iq} {cs : List Ic} (h : IqTab w l cs) (hb : Below w.heap.size w w') : IqTab w' l cs := ⟨h.1, fun i h1 h2 => (h.2 i h1 h2).below hb⟩
theorem IqTab.nil (w : World) : IqTab w [] [] := ⟨rfl, fun i h => by simp at h⟩
theorem IqTab.cons {w : World} {g : Iq} {c : Ic} {l : List Iq} {cs : List Ic} : IqTab w (g :: l) (c :: cs) ↔ IqIs w g c ∧ IqTab w l cs := by
  constructor
  · rintro ⟨h1, h2⟩
    exact ⟨h2 0 (by simp) (by simp), by simpa using h1, fun i a b => h2 (i + 1) (by simpa using a) (by simpa using b)⟩
  · rintro ⟨h0, h1, h2⟩
    refine ⟨by simpa using h1, fun i a b => ?_⟩
    cases i with
    | zero => exact h0
    | succ i => exact h2 i (by simpa using a) (by simpa using b)
theorem IqTab.app {w : World} {l : List Iq} {cs : List Ic} {g : Iq} {c : Ic} (h : IqTab w l cs) (hg : IqIs w g c) : IqTab w (l ++ [g]) (cs ++ [c]) := by
  refine ⟨by simp [h.1], fun i h1 h2 => ?_⟩
  have hl := h.1
  rcases Nat.lt_or_ge i l.length with hi | hi
  · rw [List.getElem_append_left hi, List.getElem_append_left (by omega)]; exact h.2 i hi (by omega)
  · have : i = l.length := by simp at h1; omega
    subst this
    simp [hl]
    exact hg
theorem IqTab.append {w : World} : ∀ {l m : List Iq} {cs ds : List Ic}, IqTab w l cs → IqTab w m ds → IqTab w (l ++ m) (cs ++ ds)
  | [], m, [], ds, _, h => h
  | [], _, _ :: _, _, h, _ => by have := h.1; simp at this
  | _ :: _, _, [], _, h, _ => by have := h.1; simp at this
  | a :: l, m, d :: cs, ds, h, k => by
    obtain ⟨h1, h2⟩ := IqTab.cons.1 h
    exact IqTab.cons.2 ⟨h1, IqTab.append h2 k⟩
theorem IqTab.take {w : World} {l : List Iq} {cs : List Ic} (h : IqTab w l cs) (k : Nat) : IqTab w (l.take k) (cs.take k) := by
  refine ⟨by simp [h.1], fun i h1 h2 => ?_⟩
  rw [List.getElem_take, List.getElem_take]
  exact h.2 i (by simp at h1; omega) (by simp at h2; omega)
theorem IqTab.drop {w : World} {l : List Iq} {cs : List Ic} (h : IqTab w l cs) (k : Nat) : IqTab w (l.drop k) (cs.drop k) := by
  refine ⟨by simp [h.1], fun i h1 h2 => ?_⟩
  rw [List.getElem_drop, List.getElem_drop]
  exact h.2 _ (by simp at h1; omega) (by simp at h2; omega)
theorem IqTab.filter {w : World} {p : Iq → Bool} {q : Ic → Bool} (hpq : ∀ g c, IqIs w g c → p g = q c) : ∀ {l : List Iq} {cs : List Ic}, IqTab w l cs → IqTab w (l.filter p) (cs.filter q)
  | [], [], _ => IqTab.nil w
  | [], _ :: _, h => by have := h.1; simp at this
  | _ :: _, [], h => by have := h.1; simp at this
  | a :: l, d :: cs, h => by
    obtain ⟨h1, h2⟩ := IqTab.cons.1 h
    rw [List.filter_cons, List.filter_cons, hpq a d h1]
    split
    · exact IqTab.cons.2 ⟨h1, IqTab.filter hpq h2⟩
    · exact IqTab.filter hpq h2
theorem IqTab.put {w : World} {g : Iq} {c : Ic} {ah : Iq → Iq → Bool} {ac : Ic → Ic → Bool} (hah : ∀ g c g' c', IqIs w g c → IqIs w g' c' → ah g g' = ac c c') (hg : IqIs w g c) : ∀ {l : List Iq} {cs : List Ic}, IqTab w l cs → IqTab w (putR ah l g) (putR ac cs c)
  | [], [], _ => IqTab.cons.2 ⟨hg, IqTab.nil w⟩
  | [], _ :: _, h => by have := h.1; simp at this
  | _ :: _, [], h => by have := h.1; simp at this
  | a :: l, d :: cs, h => by
    obtain ⟨h1, h2⟩ := IqTab.cons.1 h
    unfold putR
    rw [hah a d g c h1 hg, hah g c a d hg h1]
    split
    · exact IqTab.cons.2 ⟨h1, IqTab.put hah hg h2⟩
    · split
      · exact IqTab.cons.2 ⟨hg, IqTab.cons.2 ⟨h1, h2⟩⟩
      · exact IqTab.cons.2 ⟨hg, h2⟩
theorem IqTab.set {w : World} {l : List Iq} {cs : List Ic} {g : Iq} {c : Ic} (h : IqTab w l cs) (hg : IqIs w g c) (k : Nat) : IqTab w (l.set k g) (cs.set k c) := by
  refine ⟨by simp [h.1], fun i h1 h2 => ?_⟩
  rw [List.getElem_set, List.getElem_set]
  split
  · exact hg
  · exact h.2 i (by simpa using h1) (by simpa using h2)
theorem IqTab.find {w : World} {p : Iq → Bool} {q : Ic → Bool} (hpq : ∀ g c, IqIs w g c → p g = q c) : ∀ {l : List Iq} {cs : List Ic}, IqTab w l cs → (l.find? p = none ∧ cs.find? q = none) ∨ (∃ g c, l.find? p = some g ∧ cs.find? q = some c ∧ IqIs w g c)
  | [], [], _ => .inl ⟨rfl, rfl⟩
  | [], _ :: _, h => by have := h.1; simp at this
  | _ :: _, [], h => by have := h.1; simp at this
  | a :: l, d :: cs, h => by
    obtain ⟨h1, h2⟩ := IqTab.cons.1 h
    rw [List.find?_cons, List.find?_cons, hpq a d h1]
    cases q d with
    | true => exact .inr ⟨a, d, rfl, rfl, h1⟩
    | false => exact IqTab.find hpq h2
structure IqOwn (B : Nat) (w : World) (g : Iq) (c : Ic) : Prop where
  id : g.id = c.id
  mult : g.mult = c.mult
  price : g.price = c.price
  nxt : g.nxt = c.nxt
  len : g.mvL = c.L.length
  own : w.ownsRow B 2 1 (.slice g.mv c.L.length g.mvC) c.L.length (rc Sx.cells c.L)
theorem IqOwn.is {B : Nat} {w : World} {g : Iq} {c : Ic} (h : IqOwn B w g c) : IqIs w g c := ⟨h.id, h.mult, h.price, h.nxt, h.len, Sl.of_own h.own⟩
theorem IqOwn.below {B : Nat} {w w' : World} {g : Iq} {c : Ic} (h : IqOwn B w g c) (hb : Below w.heap.size w w') : IqOwn B w' g c := ⟨h.id, h.mult, h.price, h.nxt, h.len, own_below h.own hb⟩
theorem own_kept_iq {w w' : World} {B B' : Nat} {v v' : Value} {n n' : Nat} {xs ys : List Value} (h : w.ownsRow B 2 1 v n xs) (ho : w.ownsRow B' 25 5 v' n' ys) (hg : w.grownBy w' v'.ownBlock) : w'.ownsRow B 2 1 v n xs := own_kept_types (by decide) h ho hg
theorem IqOwn.kept {w w' : World} {B B' : Nat} {g : Iq} {c : Ic} {v' : Value} {n' : Nat} {ys : List Value} (h : IqOwn B w g c) (ho : w.ownsRow B' 25 5 v' n' ys) (hg : w.grownBy w' v'.ownBlock) : IqOwn B w' g c := ⟨h.id, h.mult, h.price, h.nxt, h.len, own_kept_iq h.own ho hg⟩
def IqOTab (B : Nat) (w : World) (l : List Iq) (cs : List Ic) : Prop := l.length = cs.length ∧ ∀ i, (h : i < l.length) → (h2 : i < cs.length) → IqOwn B w l[i] cs[i]
theorem IqOTab.tab {B : Nat} {w : World} {l : List Iq} {cs : List Ic} (h : IqOTab B w l cs) : IqTab w l cs := ⟨h.1, fun i h1 h2 => (h.2 i h1 h2).is⟩
theorem IqOTab.below {B : Nat} {w w' : World} {l : List Iq} {cs : List Ic} (h : IqOTab B w l cs) (hb : Below w.heap.size w w') : IqOTab B w' l cs := ⟨h.1, fun i h1 h2 => (h.2 i h1 h2).below hb⟩
theorem IqOTab.kept {w w' : World} {B B' : Nat} {l : List Iq} {cs : List Ic} {v' : Value} {n' : Nat} {ys : List Value} (h : IqOTab B w l cs) (ho : w.ownsRow B' 25 5 v' n' ys) (hg : w.grownBy w' v'.ownBlock) : IqOTab B w' l cs := ⟨h.1, fun i h1 h2 => (h.2 i h1 h2).kept ho hg⟩
theorem IqOTab.app {B : Nat} {w : World} {l : List Iq} {cs : List Ic} {g : Iq} {c : Ic} (h : IqOTab B w l cs) (hg : IqOwn B w g c) : IqOTab B w (l ++ [g]) (cs ++ [c]) := by
  refine ⟨by simp [h.1], fun i h1 h2 => ?_⟩
  have hl := h.1
  rcases Nat.lt_or_ge i l.length with hi | hi
  · rw [List.getElem_append_left hi, List.getElem_append_left (by omega)]; exact h.2 i hi (by omega)
  · have : i = l.length := by simp at h1; omega
    subst this
    simp [hl]
    exact hg
structure BzIq (w : World) (b : Nat) : Prop where
  bk : Bk w b #[.int .i64 0, .int .i64 0, .int .i64 0, .int .i64 0, .slice none 0 0]
  fz : ∀ i, w.frozen? ⟨b, i, none⟩ = false
theorem BzIq.new (w : World) : BzIq (w.alloc (.cells #[.int .i64 0, .int .i64 0, .int .i64 0, .int .i64 0, .slice none 0 0] 25)) w.heap.size := ⟨Bk.new w _ _, fun i => by simp⟩
theorem BzIq.below {w w' : World} {b : Nat} (h : BzIq w b) (hb : Below w.heap.size w w') : BzIq w' b := ⟨h.bk.below hb, fun i => by rw [hb.frozen (p := ⟨b, i, none⟩) h.bk.1]; exact h.fz i⟩
theorem BzIq.got {w : World} {b : Nat} (h : BzIq w b) : w.cell? ⟨b, 0, none⟩ = some (.int .i64 0) ∧ w.cell? ⟨b, 1, none⟩ = some (.int .i64 0) ∧ w.cell? ⟨b, 2, none⟩ = some (.int .i64 0) ∧ w.cell? ⟨b, 3, none⟩ = some (.int .i64 0) ∧ w.cell? ⟨b, 4, none⟩ = some (.slice none 0 0) := by
  have h1 := h.bk.2
  exact ⟨h1 0, h1 1, h1 2, h1 3, h1 4⟩
structure AfIq (w : World) (b : Nat) (g : Iq) : Prop where
  bx : Iq.Bx w b g
  fz : ∀ i, w.frozen? ⟨b, i, none⟩ = false
theorem AfIq.below {w w' : World} {b : Nat} {g : Iq} (h : AfIq w b g) (hb : Below w.heap.size w w') : AfIq w' b g := ⟨h.bx.below hb, fun i => by rw [hb.frozen (p := ⟨b, i, none⟩) h.bx.lt]; exact h.fz i⟩
set_option maxHeartbeats 4000000 in
set_option maxRecDepth 100000 in
theorem dup1_iq (id : Int) (mult : Int) (price : Int) (nxt : Int) (A : Option Addr) (cap : Nat) (L : List Sx) (w : World) (hl : L.length ≤ 900000) (hs : Sl w A (rc Sx.cells L)) :
    Calls Tryd.prog 25 #[.agg #[.int .i64 id, .int .i64 mult, .int .i64 price, .int .i64 nxt, .slice A L.length cap]] w fun e w' => (∃ A' c', e = .returned (.agg #[.int .i64 id, .int .i64 mult, .int .i64 price, .int .i64 nxt, .slice A' L.length c']) ∧ w'.ownsRow w.heap.size 2 1 (.slice A' L.length c') L.length (rc Sx.cells L)) ∧ Below w.heap.size w w' := by
  have hB0 := since_alloc (since_alloc (Below.refl _ w) (.cells #[.int .i64 id, .int .i64 mult, .int .i64 price, .int .i64 nxt, .slice A L.length cap] 25)) (.cells #[.int .i64 0, .int .i64 0, .int .i64 0, .int .i64 0, .slice none 0 0] 25)
  have hV0 : AfIq ((w.alloc (.cells #[.int .i64 id, .int .i64 mult, .int .i64 price, .int .i64 nxt, .slice A L.length cap] 25)).alloc (.cells #[.int .i64 0, .int .i64 0, .int .i64 0, .int .i64 0, .slice none 0 0] 25)) w.heap.size ⟨id, mult, price, nxt, A, L.length, cap⟩ := ⟨(Iq.Bx.new w ⟨id, mult, price, nxt, A, L.length, cap⟩).below ((Below.refl _ _).alloc (Nat.le_refl _) (.cells #[.int .i64 0, .int .i64 0, .int .i64 0, .int .i64 0, .slice none 0 0] 25)), fun i => by simp⟩
  have hZ0 : BzIq ((w.alloc (.cells #[.int .i64 id, .int .i64 mult, .int .i64 price, .int .i64 nxt, .slice A L.length cap] 25)).alloc (.cells #[.int .i64 0, .int .i64 0, .int .i64 0, .int .i64 0, .slice none 0 0] 25)) (w.heap.size + 1) := by have h := BzIq.new (w.alloc (.cells #[.int .i64 id, .int .i64 mult, .int .i64 price, .int .i64 nxt, .slice A L.length cap] 25)); rw [World.size_alloc] at h; exact h
  have hs0 := (hs.alloc (.cells #[.int .i64 id, .int .i64 mult, .int .i64 price, .int .i64 nxt, .slice A L.length cap] 25)).alloc (.cells #[.int .i64 0, .int .i64 0, .int .i64 0, .int .i64 0, .slice none 0 0] 25)
  clear hs
  go_enter Tryd.func25, Tryd.ntmps25
  go_upto_region 1 with fail
  generalize hWW : (w.alloc (.cells #[.int .i64 id, .int .i64 mult, .int .i64 price, .int .i64 nxt, .slice A L.length cap] 25)).alloc (.cells #[.int .i64 0, .int .i64 0, .int .i64 0, .int .i64 0, .slice none 0 0] 25) = w0 at *
  clear hWW
  have hcs := @cell_set
  obtain ⟨q0, q1, q2, q3, q4⟩ := (hV0.bx).got
  simp only at q0 q1 q2 q3 q4
  obtain ⟨z0, z1, z2, z3, z4⟩ := hZ0.got
  have fq := hV0.fz
  have fz := hZ0.fz
  have lq := hV0.bx.lt
  have lz := hZ0.bk.1
  have hzl := hZ0.bk.1
  go_wp2_with fail
  refine (clone_sx A cap L _ (by omega) hs0).mono ?_
  rintro e w1 ⟨⟨A1, c1, rfl, hown⟩, hb⟩
  have hV1 := hV0.below hb
  have hZ1 := hZ0.below hb
  have hB1 := since_step hB0 hb
  clear hb q0 q1 q2 q3 q4 z0 z1 z2 z3 z4 fq fz lq lz
  obtain ⟨q0, q1, q2, q3, q4⟩ := (hV1.bx).got
  simp only at q0 q1 q2 q3 q4
  obtain ⟨z0, z1, z2, z3, z4⟩ := hZ1.got
  have fq := hV1.fz
  have fz := hZ1.fz
  have lq := hV1.bx.lt
  have lz := hZ1.bk.1
  go_wp2_with fail
  refine bodyPost_ret (v := .agg #[.int .i64 id, .int .i64 mult, .int .i64 price, .int .i64 nxt, .slice A1 L.length c1]) ?_ rfl ⟨⟨A1, c1, rfl, own_base ?_ hB0.size⟩, ?_⟩
  · simp [results, Tryd.results25, go_sem, z0, z1, z2, z3, z4, q0, q1, q2, q3, q4, fz, fq, hcs]
  · repeat' (first | with_reducible exact hown | with_reducible refine own_setFar' ?_ ?_ _)
    all_goals first | (simp; done) | (simp; omega)
  · repeat' (first | with_reducible exact hB1 | with_reducible refine Below.setCell ?_ ?_ _ | with_reducible refine Below.alloc ?_ ?_ _)
    all_goals first | (simp; done) | (simp; omega)
def DupResIq (w w' : World) (e : Ending) (cs : List Ic) : Prop :=
  ∃ (l : List Iq) (A' : Option Addr) (c' : Nat), e = .returned (.slice A' l.length c') ∧ w'.ownsRow w.heap.size 25 5 (.slice A' l.length c') l.length (rc Iq.cells l) ∧ IqOTab w.heap.size w' l cs
def DRelIq (cs : List Ic) (W : World) (out i : Value) (wr : World) : Prop :=
  ∃ (k : Nat) (l : List Iq) (A' : Option Addr) (c' : Nat), k ≤ cs.length ∧ i = .int .i64 k ∧ l.length ≤ k ∧ out = .slice A' l.length c' ∧ wr.ownsRow W.heap.size 25 5 (.slice A' l.length c') l.length (rc Iq.cells l) ∧ IqOTab W.heap.size wr l (cs.take k) ∧ Below W.heap.size W wr
set_option maxHeartbeats 4000000 in
set_option maxRecDepth 100000 in
theorem each_iq (A : Option Addr) (cap : Nat) (l : List Iq) (cs : List Ic) (w : World) (hl : l.length ≤ 900000) (hcl : ∀ c ∈ cs, c.L.length ≤ 900000) (hs : Sl w A (rc Iq.cells l)) (ht : IqTab w l cs) :
    Calls Tryd.prog 37 #[.slice A l.length cap, .func (.func 25) #[] #[]] w fun e w' => DupResIq w w' e cs ∧ Below w.heap.size w w' := by
  have HLC := Lib.hid ht.1
  go_enter Tryd.func37, Tryd.ntmps37
  go_wp2_with (first
    | (at_make; refine wpList_mk rfl (.const (.int .i64 0)) (.tmp 9) rfl EIq l.length rfl rfl rfl (by omega) (by unfold maxLen; omega) (Nat.le_refl _) ?_; intro W2 hownW hbW)
    | fail)
  go_loopw [5, 13] (fun out i wr => DRelIq cs w out i wr) (fun _ i _ => l.length - (intOf i).toNat)
  case atStart => exact ⟨0, [], _, _, by omega, rfl, by simp, rfl, by simpa [rc] using hownW, ⟨rfl, fun i h => by simp at h⟩, hbW⟩
  case round =>
    obtain ⟨k, m, A', c', hk, rfl, hmk, rfl, hown, hot, hB⟩ := hrel
    clear hownW hbW
    by_cases hlt : k < l.length
    · obtain ⟨b, o, rfl, hbw, hg⟩ := (hs.below hB).iq hlt
      have hltc : k < cs.length := by have := HLC.out; omega
      have hi := ht.2 k hlt hltc
      have hcl2 := hcl _ (List.getElem_mem hltc)
      have HT : Hid (cs.take (k + 1) = cs.take k ++ [cs[k]'hltc]) := Lib.hid (take_snoc cs k hltc)
      have hlk : (k : Int) < (l.length : Int) := by omega
      have hsz := hB.size
      obtain ⟨c, hc⟩ : ∃ c, (cs[k]'hltc) = c := ⟨_, rfl⟩
      rw [hc] at hi HT hcl2
      clear hc hs ht hcl
      have hge := hi.eq
      rw [hge] at hg
      clear hge
      obtain ⟨g0, g1, g2, g3, g4⟩ := hg
      simp only at g0 g1 g2 g3 g4
      have hsl := (hi.sl.below hB)
      clear hi
      generalize l[k].mv = cl at *
      generalize l[k].mvC = cc at *
      have hA := since_alloc hB (.cells #[.int .i64 c.id, .int .i64 c.mult, .int .i64 c.price, .int .i64 c.nxt, .slice cl c.L.length cc] 25)
      have HD := Lib.hid (dup1_iq c.id c.mult c.price c.nxt cl cc c.L _ hcl2 (hsl.alloc (.cells #[.int .i64 c.id, .int .i64 c.mult, .int .i64 c.price, .int .i64 c.nxt, .slice cl c.L.length cc] 25)))
      have hown1 := hown.alloc (.cells #[.int .i64 c.id, .int .i64 c.mult, .int .i64 c.price, .int .i64 c.nxt, .slice cl c.L.length cc] 25)
      have hot1 := hot.below ((Below.refl wr.heap.size wr).alloc (Nat.le_refl _) (.cells #[.int .i64 c.id, .int .i64 c.mult, .int .i64 c.price, .int .i64 c.nxt, .slice cl c.L.length cc] 25))
      have hm9 : m.length ≤ 900000 := by omega
      clear hown hot hsl
      go_wp2_with fail
      refine HD.out.mono ?_
      rintro e w1 ⟨⟨A1, c1, rfl, ownL⟩, hb1⟩
      have hB1 := since_step hA hb1
      have hown2 := own_below hown1 hb1
      have hot2 := hot1.below hb1
      have hsz1 := hB1.size
      have ownL := own_base ownL hA.size
      clear hown1 hot1 hb1
      go_wp2_with (first
        | (at_builtin; refine wpList_app rfl (.tmp 17) (.tmp 21) rfl EIq rfl rfl (hown2.alloc _) (m := 1) (news := (⟨c.id, c.mult, c.price, c.nxt, A1, c.L.length, c1⟩ : Iq).cells) rfl (Sl.new_ _ _ _) (Iq.one _) (by unfold maxLen; omega) (by omega) (by simp only [World.size_alloc]; omega) ?_; intro A2 c2 w3 hown3 hg3 hb3)
        | fail)
      have hot3 := ((hot2.app (g := ⟨c.id, c.mult, c.price, c.nxt, A1, c.L.length, c1⟩) (c := c) ⟨rfl, rfl, rfl, rfl, rfl, ownL⟩).below ((Below.refl w1.heap.size w1).alloc (Nat.le_refl _) (.cells (⟨c.id, c.mult, c.price, c.nxt, A1, c.L.length, c1⟩ : Iq).cells.toArray 25))).kept (hown2.alloc _) hg3
      go_roundw
      case rel =>
        refine ⟨k + 1, m ++ [⟨c.id, c.mult, c.price, c.nxt, A1, c.L.length, c1⟩], A2, c2, by omega, by go_num, by simp; omega, by simp, ?_, ?_, (hB1.alloc hsz1 _).trans hb3⟩
        · rw [rc_append]; simpa [rc] using hown3
        · rw [HT.out]; exact hot3
      case measure => simp [intOf]; omega
    · have hkl : k = cs.length := by have := HLC.out; omega
      subst hkl
      rw [List.take_length] at hot
      have hge : ¬ ((cs.length : Int) < (l.length : Int)) := by have := HLC.out; omega
      clear hs ht hcl
      go_wp2_with fail
      go_ret
      exact ⟨⟨m, A', c', rfl, hown, hot⟩, hB⟩
set_option maxHeartbeats 1000000 in
set_option maxRecDepth 100000 in
theorem dups_iq (A : Option Addr) (cap : Nat) (l : List Iq) (cs : List Ic) (w : World) (hl : l.length ≤ 900000) (hcl : ∀ c ∈ cs, c.L.length ≤ 900000) (hs : Sl w A (rc Iq.cells l)) (ht : IqTab w l cs) :
    Calls Tryd.prog 24 #[.slice A l.length cap] w fun e w' => DupResIq w w' e cs ∧ Below w.heap.size w w' := by
  go_enter Tryd.func24, Tryd.ntmps24
  go_wp2_with fail
  refine (each_iq A cap l cs _ hl hcl hs ht).mono ?_
  rintro e w1 ⟨⟨m, A1, c1, rfl, h1, h2⟩, hb1⟩
  go_wp2_with fail
  go_ret
  exact ⟨⟨m, A1, c1, rfl, h1, h2⟩, hb1⟩
end Go.Proofs.YtldnponbkhgijaaDoor
end
section
namespace Go.Proofs.YtldnponbkhgijaaDoor
set_option linter.unusedVariables false

def hiN (x : Int) : Int := IntKind.i64.wrap (x / 18446744073709551616)
def loN (x : Int) : Int := x % 18446744073709551616
def topN (x : Int) : Int := IntKind.i64.wrap (x / 340282366920938463463374607431768211456)
def In128 (x : Int) : Prop := -170141183460469231731687303715884105728 ≤ x ∧ x ≤ 170141183460469231731687303715884105727
def In64 (x : Int) : Prop := -9223372036854775808 ≤ x ∧ x ≤ 9223372036854775807
def In192 (x : Int) : Prop := -3138550867693340381917894711603833208051177722232017256448 ≤ x ∧ x < 3138550867693340381917894711603833208051177722232017256448
instance (x : Int) : Decidable (In128 x) := by unfold In128; infer_instance
instance (x : Int) : Decidable (In64 x) := by unfold In64; infer_instance
theorem lo_nn (x : Int) : 0 ≤ loN x := by unfold loN; omega
theorem lo_lt (x : Int) : loN x < 18446744073709551616 := by unfold loN; omega
theorem uwrap_rng (x : Int) : 0 ≤ IntKind.u64.wrap x ∧ IntKind.u64.wrap x < 18446744073709551616 := by rw [IntKind.wrap_u64]; omega
theorem uhi (x : Int) : IntKind.u64.wrap (hiN x) = x / 18446744073709551616 % 18446744073709551616 := by
  unfold hiN
  rw [IntKind.wrap_i64, IntKind.wrap_u64]
  omega
theorem utop (x : Int) : IntKind.u64.wrap (topN x) = x / 340282366920938463463374607431768211456 % 18446744073709551616 := by
  unfold topN
  rw [IntKind.wrap_i64, IntKind.wrap_u64]
  omega
theorem minus_parts (x s0 k0 s1 k1 s2 k2 : Int)
    (h0 : 0 - loN x - 0 = s0 - 18446744073709551616 * k0) (b0 : 0 ≤ s0 ∧ s0 < 18446744073709551616)
    (h1 : 0 - IntKind.u64.wrap (hiN x) - k0 = s1 - 18446744073709551616 * k1) (b1 : 0 ≤ s1 ∧ s1 < 18446744073709551616)
    (h2 : 0 - IntKind.u64.wrap (topN x) - k1 = s2 - 18446744073709551616 * k2) (b2 : 0 ≤ s2 ∧ s2 < 18446744073709551616) :
    s0 = loN (-x) ∧ IntKind.i64.wrap s1 = hiN (-x) ∧ IntKind.i64.wrap s2 = topN (-x) := by
  rw [uhi] at h1
  rw [utop] at h2
  unfold loN at *
  unfold hiN topN
  have e0 : s0 = (-x) % 18446744073709551616 := by omega
  have q0 : (-x) / 18446744073709551616 = -(x / 18446744073709551616) - k0 := by omega
  have dx : x / 340282366920938463463374607431768211456 = x / 18446744073709551616 / 18446744073709551616 := by omega
  have dz : (-x) / 340282366920938463463374607431768211456 = (-x) / 18446744073709551616 / 18446744073709551616 := by omega
  rw [dx] at h2
  rw [dz, q0]
  generalize x / 18446744073709551616 = a at *
  have e1 : s1 = (-a - k0) % 18446744073709551616 := by omega
  have q1 : (-a - k0) / 18446744073709551616 = -(a / 18446744073709551616) - k1 := by omega
  refine ⟨e0, ?_, ?_⟩
  · rw [IntKind.wrap_i64, IntKind.wrap_i64, e1]; omega
  · rw [q1, IntKind.wrap_i64, IntKind.wrap_i64]
    have e2 : s2 = (-(a / 18446744073709551616) - k1) % 18446744073709551616 := by omega
    rw [e2]; omega
theorem hi_in {x : Int} (h : In128 x) : hiN x = x / 18446744073709551616 := by
  unfold hiN In128 at *
  rw [IntKind.wrap_i64]; omega
theorem top_in {x : Int} (h : In128 x) : topN x = hiN x / 9223372036854775808 := by
  rw [hi_in h]
  unfold topN In128 at *
  rw [IntKind.wrap_i64]; omega
theorem narrow_iff {x : Int} (h : In192 x) : topN x = hiN x / 9223372036854775808 ↔ In128 x := by
  constructor
  · intro e
    unfold topN hiN In192 In128 at *
    have dx : x / 340282366920938463463374607431768211456 = x / 18446744073709551616 / 18446744073709551616 := by omega
    have hb : -170141183460469231731687303715884105728 ≤ x / 18446744073709551616 ∧ x / 18446744073709551616 < 170141183460469231731687303715884105728 := by omega
    rw [dx] at e
    have : -9223372036854775808 ≤ x / 18446744073709551616 ∧ x / 18446744073709551616 ≤ 9223372036854775807 := by
      clear h dx
      generalize x / 18446744073709551616 = a at *
      rw [IntKind.wrap_i64, IntKind.wrap_i64] at e
      omega
    clear e
    omega
  · exact top_in
theorem of_in (n : Int) (h : In64 n) : hiN n = n / 9223372036854775808 ∧ loN n = IntKind.u64.wrap n ∧ In128 n := by
  unfold In64 at h
  refine ⟨?_, ?_, ?_⟩
  · unfold hiN; rw [IntKind.wrap_i64]; omega
  · unfold loN; rw [IntKind.wrap_u64]
  · unfold In128; omega
theorem int_iff {x : Int} (h : In128 x) : hiN x = IntKind.i64.wrap (loN x) / 9223372036854775808 ↔ In64 x := by
  rw [hi_in h]
  unfold In128 In64 loN at *
  rw [IntKind.wrap_i64]
  omega
theorem int_lo {x : Int} (h : In64 x) : IntKind.i64.wrap (loN x) = x := by
  unfold In64 loN at *
  rw [IntKind.wrap_i64]; omega
theorem run_add64' {P : Program} {f : FuncId} {fn : Func} (hf : P.funcs[f]? = some fn) (hname : (fn.name == "runtime.NumGoroutine") = false)
    (hb : fn.body.isNone = true) (hn : Extern.findNext fn = none) (he : Extern.find fn = some add64Entry) (x y c : Int) (hx : 0 ≤ x ∧ x < 18446744073709551616) (hy : 0 ≤ y ∧ y < 18446744073709551616) (hc : 0 ≤ c ∧ c ≤ 1) :
    ∃ s k : Int, (∀ w, (callFunc f #[.int .u64 x, .int .u64 y, .int .u64 c]).run P w = .ok (.value (.tuple #[.int .u64 s, .int .u64 k])) w) ∧ x + y + c = s + 18446744073709551616 * k ∧ (0 ≤ s ∧ s < 18446744073709551616) ∧ (0 ≤ k ∧ k ≤ 1) := by
  refine ⟨(x + y + c) % 18446744073709551616, (x + y + c) / 18446744073709551616, fun w => ?_, by omega, by omega, by omega⟩
  rw [run_callFunc_extern hf hname hb hn he, run_add64 x y c hx.1 hy.1 hc.1 hc.2]
  rfl
def sub64Row : Array Value → Sem Value := fun args => do
  let (x, y, b) ← Extern.MathBitsCarry.three "Sub64" args
  pure (Extern.MathBitsCarry.pair ((x + Extern.MathBitsCarry.m64 - y - b) % Extern.MathBitsCarry.m64) (if x < y + b then 1 else 0))
theorem run_sub64' {P : Program} {f : FuncId} {fn : Func} (hf : P.funcs[f]? = some fn) (hname : (fn.name == "runtime.NumGoroutine") = false)
    (hb : fn.body.isNone = true) (hn : Extern.findNext fn = none) (he : Extern.find fn = some sub64Row) (x y c : Int) (hx : 0 ≤ x ∧ x < 18446744073709551616) (hy : 0 ≤ y ∧ y < 18446744073709551616) (hc : 0 ≤ c ∧ c ≤ 1) :
    ∃ s k : Int, (∀ w, (callFunc f #[.int .u64 x, .int .u64 y, .int .u64 c]).run P w = .ok (.value (.tuple #[.int .u64 s, .int .u64 k])) w) ∧ x - y - c = s - 18446744073709551616 * k ∧ (0 ≤ s ∧ s < 18446744073709551616) ∧ (0 ≤ k ∧ k ≤ 1) := by
  obtain ⟨a, rfl⟩ := Int.eq_ofNat_of_zero_le hx.1
  obtain ⟨b, rfl⟩ := Int.eq_ofNat_of_zero_le hy.1
  obtain ⟨k, rfl⟩ := Int.eq_ofNat_of_zero_le hc.1
  refine ⟨(((a + 18446744073709551616 - b - k) % 18446744073709551616 : Nat) : Int), ((if a < b + k then 1 else 0 : Nat) : Int), fun w => ?_, ?_, by omega, by split <;> omega⟩
  · rw [run_callFunc_extern hf hname hb hn he]
    have hk : k = 0 ∨ k = 1 := by omega
    rcases hk with rfl | rfl <;> rfl
  · split <;> omega
end Go.Proofs.YtldnponbkhgijaaDoor
end
section
namespace Go.Proofs.YtldnponbkhgijaaDoor
open Go.ChangeShapes Go.WideShapes Go.ChangeAt Go.RowKit
set_option linter.unusedVariables false
set_option linter.unusedSimpArgs false

theorem add64_run (x y c : Int) (hx : 0 ≤ x ∧ x < 18446744073709551616) (hy : 0 ≤ y ∧ y < 18446744073709551616) (hc : 0 ≤ c ∧ c ≤ 1) :
    ∃ s k : Int, (∀ w, (callFunc 62 #[.int .u64 x, .int .u64 y, .int .u64 c]).run Tryd.prog w = .ok (.value (.tuple #[.int .u64 s, .int .u64 k])) w) ∧ x + y + c = s + 18446744073709551616 * k ∧ (0 ≤ s ∧ s < 18446744073709551616) ∧ (0 ≤ k ∧ k ≤ 1) :=
  run_add64' Tryd.func62 (by kernel_rfl) (by kernel_rfl) (by kernel_rfl) (by kernel_rfl) x y c hx hy hc
theorem sub64_run (x y c : Int) (hx : 0 ≤ x ∧ x < 18446744073709551616) (hy : 0 ≤ y ∧ y < 18446744073709551616) (hc : 0 ≤ c ∧ c ≤ 1) :
    ∃ s k : Int, (∀ w, (callFunc 64 #[.int .u64 x, .int .u64 y, .int .u64 c]).run Tryd.prog w = .ok (.value (.tuple #[.int .u64 s, .int .u64 k])) w) ∧ x - y - c = s - 18446744073709551616 * k ∧ (0 ≤ s ∧ s < 18446744073709551616) ∧ (0 ≤ k ∧ k ≤ 1) :=
  run_sub64' Tryd.func64 (by kernel_rfl) (by kernel_rfl) (by kernel_rfl) (by kernel_rfl) x y c hx hy hc
theorem wrap64_eq (x : Int) : wrap64 x = IntKind.i64.wrap x := by rw [IntKind.wrap_i64]; unfold wrap64; omega
def sumV (x : Int) : Value := .agg #[.int .i64 (hiN x), .int .u64 (loN x), .int .i64 (topN x)]
set_option maxHeartbeats 1000000 in
theorem minus_any (x : Int) (w : World) :
    Calls Tryd.prog 50 #[.agg #[.int .i64 (hiN x), .int .u64 (loN x), .int .i64 (topN x)]] w fun e w' => e = .returned (sumV (-x)) ∧ Below w.heap.size w w' := by
  obtain ⟨s0, k0, r0, e0, b0, c0⟩ := sub64_run 0 (loN x) 0 ⟨by omega, by omega⟩ ⟨lo_nn x, lo_lt x⟩ ⟨by omega, by omega⟩
  obtain ⟨s1, k1, r1, e1, b1, c1⟩ := sub64_run 0 (IntKind.u64.wrap (hiN x)) k0 ⟨by omega, by omega⟩ (uwrap_rng _) c0
  obtain ⟨s2, k2, r2, e2, b2, c2⟩ := sub64_run 0 (IntKind.u64.wrap (topN x)) k1 ⟨by omega, by omega⟩ (uwrap_rng _) c1
  have H := Lib.hid (minus_parts x s0 k0 s1 k1 s2 k2 e0 b0 e1 b1 e2 b2)
  clear e0 e1 e2 b0 b1 b2 c0 c1 c2
  go_enter Tryd.func50, Tryd.ntmps50
  go_wp2
  refine bodyPost_ret (v := .agg #[.int .i64 (IntKind.i64.wrap s1), .int .u64 s0, .int .i64 (IntKind.i64.wrap s2)]) ?_ rfl ?_
  · simp [results, Tryd.results50, go_sem, wrap64_eq]
  · refine ⟨by rw [H.out.1, H.out.2.1, H.out.2.2]; rfl, ?_⟩
    exact ((Below.refl _ _).alloc (Nat.le_refl _) _).alloc (by simp) _
theorem long_any (x : Int) (hx : In128 x) (w : World) :
    Calls Tryd.prog 49 #[.agg #[.int .i64 (hiN x), .int .u64 (loN x)]] w fun e w' => e = .returned (sumV x) ∧ Below w.heap.size w w' := by
  have H := Lib.hid (top_in hx)
  clear hx
  go_enter Tryd.func49, Tryd.ntmps49
  go_wp2
  refine bodyPost_ret (v := .agg #[.int .i64 (hiN x), .int .u64 (loN x), .int .i64 (hiN x / 9223372036854775808)]) ?_ rfl ?_
  · simp [results, Tryd.results49, go_sem]
  · refine ⟨by rw [← H.out]; rfl, ?_⟩
    exact ((Below.refl _ _).alloc (Nat.le_refl _) _).alloc (by simp) _
theorem narrow_yes (x : Int) (hx : In128 x) (w : World) :
    Calls Tryd.prog 63 #[.agg #[.int .i64 (hiN x), .int .u64 (loN x), .int .i64 (topN x)]] w fun e w' => e = .returned (.tuple #[.agg #[.int .i64 (hiN x), .int .u64 (loN x)], .int .i64 0]) ∧ Below w.heap.size w w' := by
  have hb : (topN x != hiN x / 9223372036854775808) = false := by rw [bne_eq_false_iff_eq]; exact top_in hx
  clear hx
  go_enter Tryd.func63, Tryd.ntmps63
  go_wp2
  refine bodyPost_ret (v := .tuple #[.agg #[.int .i64 (hiN x), .int .u64 (loN x)], .int .i64 0]) ?_ rfl ?_
  · simp [results, Tryd.results63, go_sem]
  · exact ⟨rfl, ((Below.refl _ _).alloc (Nat.le_refl _) _).alloc (by simp) _⟩
theorem narrow_no (x : Int) (h : In192 x) (hx : ¬ In128 x) (w : World) :
    Calls Tryd.prog 63 #[.agg #[.int .i64 (hiN x), .int .u64 (loN x), .int .i64 (topN x)]] w fun e w' => e = .returned (.tuple #[.agg #[.int .i64 0, .int .u64 0], .int .i64 7]) ∧ Below w.heap.size w w' := by
  have hb : (topN x != hiN x / 9223372036854775808) = true := by rw [bne_iff_ne]; intro e; exact hx ((narrow_iff h).1 e)
  clear hx h
  go_enter Tryd.func63, Tryd.ntmps63
  go_wp2
  refine bodyPost_ret (v := .tuple #[.agg #[.int .i64 0, .int .u64 0], .int .i64 7]) ?_ rfl ?_
  · simp [results, Tryd.results63, go_sem]
  · exact ⟨rfl, ((Below.refl _ _).alloc (Nat.le_refl _) _).alloc (by simp) _⟩
theorem wof_any (n : Int) (hn : In64 n) (w : World) :
    Calls Tryd.prog 60 #[.int .i64 n] w fun e w' => e = .returned (.agg #[.int .i64 (hiN n), .int .u64 (loN n)]) ∧ Below w.heap.size w w' := by
  obtain ⟨h1, h2, _⟩ := of_in n hn
  have H1 := Lib.hid h1
  have H2 := Lib.hid h2
  clear h1 h2 hn
  go_enter Tryd.func60, Tryd.ntmps60
  go_wp2
  refine bodyPost_ret (v := .agg #[.int .i64 (n / 9223372036854775808), .int .u64 (IntKind.u64.wrap n)]) ?_ rfl ?_
  · simp [results, Tryd.results60, go_sem]
  · exact ⟨by rw [H1.out, H2.out], (Below.refl _ _).alloc (Nat.le_refl _) _⟩
theorem int_yes (x : Int) (hx : In64 x) (w : World) :
    Calls Tryd.prog 39 #[.agg #[.int .i64 (hiN x), .int .u64 (loN x)]] w fun e w' => e = .returned (.tuple #[.int .i64 x, .int .i64 0]) ∧ Below w.heap.size w w' := by
  have hb : (hiN x != wrap64 (loN x) / 9223372036854775808) = false := by rw [bne_eq_false_iff_eq, wrap64_eq]; exact (int_iff (of_in x hx).2.2).2 hx
  have H := Lib.hid (show wrap64 (loN x) = x by rw [wrap64_eq]; exact int_lo hx)
  clear hx
  go_enter Tryd.func39, Tryd.ntmps39
  go_wp2
  go_ret2
  refine ⟨?_, (Below.refl _ _).alloc (Nat.le_refl _) _⟩
  simp [H.out]
theorem int_no (x : Int) (h : In128 x) (hx : ¬ In64 x) (w : World) :
    Calls Tryd.prog 39 #[.agg #[.int .i64 (hiN x), .int .u64 (loN x)]] w fun e w' => e = .returned (.tuple #[.int .i64 0, .int .i64 7]) ∧ Below w.heap.size w w' := by
  have hb : (hiN x != wrap64 (loN x) / 9223372036854775808) = true := by rw [bne_iff_ne, wrap64_eq]; intro e; exact hx ((int_iff h).1 e)
  clear hx h
  go_enter Tryd.func39, Tryd.ntmps39
  go_wp2
  go_ret2
  exact ⟨rfl, (Below.refl _ _).alloc (Nat.le_refl _) _⟩
end Go.Proofs.YtldnponbkhgijaaDoor
end
section
namespace Go.Proofs.YtldnponbkhgijaaDoor
open Go.ChangeShapes Go.WideShapes Go.ChangeAt Go.RowKit
set_option linter.unusedVariables false
set_option linter.unusedSimpArgs false

def T3 (w : World) (g : Nat) (x : Int) : Prop :=
  g < w.heap.size ∧ w.cell? ⟨g, 0, none⟩ = some (.int .i64 (hiN x)) ∧ w.cell? ⟨g, 1, none⟩ = some (.int .u64 (loN x)) ∧ w.cell? ⟨g, 2, none⟩ = some (.int .i64 (topN x)) ∧
  w.frozen? ⟨g, 0, none⟩ = false ∧ w.frozen? ⟨g, 1, none⟩ = false ∧ w.frozen? ⟨g, 2, none⟩ = false
def T2 (w : World) (g : Nat) (a b : Int) : Prop :=
  g < w.heap.size ∧ w.cell? ⟨g, 0, none⟩ = some (.int .i64 a) ∧ w.cell? ⟨g, 1, none⟩ = some (.int .u64 b) ∧ w.frozen? ⟨g, 0, none⟩ = false ∧ w.frozen? ⟨g, 1, none⟩ = false
section
variable {w w' : World} {g : Nat} {x a b : Int}
theorem T3.below (h : T3 w g x) (hb : Below w.heap.size w w') : T3 w' g x := by
  obtain ⟨h0, h1, h2, h3, f1, f2, f3⟩ := h
  exact ⟨Nat.lt_of_lt_of_le h0 hb.size, (hb.cell (p := ⟨g, 0, none⟩) h0).trans h1, (hb.cell (p := ⟨g, 1, none⟩) h0).trans h2, (hb.cell (p := ⟨g, 2, none⟩) h0).trans h3,
    (hb.frozen (p := ⟨g, 0, none⟩) h0).trans f1, (hb.frozen (p := ⟨g, 1, none⟩) h0).trans f2, (hb.frozen (p := ⟨g, 2, none⟩) h0).trans f3⟩
theorem T2.below (h : T2 w g a b) (hb : Below w.heap.size w w') : T2 w' g a b := by
  obtain ⟨h0, h1, h2, f1, f2⟩ := h
  exact ⟨Nat.lt_of_lt_of_le h0 hb.size, (hb.cell (p := ⟨g, 0, none⟩) h0).trans h1, (hb.cell (p := ⟨g, 1, none⟩) h0).trans h2, (hb.frozen (p := ⟨g, 0, none⟩) h0).trans f1, (hb.frozen (p := ⟨g, 1, none⟩) h0).trans f2⟩
theorem T2.far (h : T2 w g a b) {p : Addr} (hp : p.block ≠ g) (v : Value) : T2 (w.setCell p v) g a b := by
  obtain ⟨h0, h1, h2, f1, f2⟩ := h
  have k : ∀ o, (w.setCell p v).cell? ⟨g, o, none⟩ = w.cell? ⟨g, o, none⟩ := fun o => World.cell?_setCell_other w _ _ _ (by rintro rfl; exact hp rfl)
  exact ⟨by simpa using h0, (k 0).trans h1, (k 1).trans h2, by simpa using f1, by simpa using f2⟩
theorem T2.new (w : World) (a b : Int) (t : TypeId) : T2 (w.alloc (.cells #[.int .i64 a, .int .u64 b] t)) w.heap.size a b := by
  refine ⟨by simp, ?_, ?_, ?_, ?_⟩ <;> simp
theorem T2.alloc (h : T2 w g a b) (o : Obj) : T2 (w.alloc o) g a b := h.below ((Below.refl _ _).alloc (Nat.le_refl _) o)
theorem T3.alloc (h : T3 w g x) (o : Obj) : T3 (w.alloc o) g x := h.below ((Below.refl _ _).alloc (Nat.le_refl _) o)
theorem T3.new (w : World) (x : Int) (t : TypeId) : T3 (w.alloc (.cells #[.int .i64 (hiN x), .int .u64 (loN x), .int .i64 (topN x)] t)) w.heap.size x := by
  refine ⟨by simp, ?_, ?_, ?_, ?_, ?_, ?_⟩ <;> simp
theorem T3.drew (h : T3 w g x) : T3 w.drew g x := h
theorem T2.drew (h : T2 w g a b) : T2 w.drew g a b := h
end
theorem zero_parts : hiN 0 = 0 ∧ loN 0 = 0 ∧ topN 0 = 0 := by decide
def wideE (x : Int) : Value := if In128 x then .tuple #[.agg #[.int .i64 (hiN x), .int .u64 (loN x)], .int .i64 0] else .tuple #[.agg #[.int .i64 0, .int .u64 0], .int .i64 7]
theorem wideE_yes {x : Int} (h : In128 x) : wideE x = .tuple #[.agg #[.int .i64 (hiN x), .int .u64 (loN x)], .int .i64 0] := if_pos h
theorem wideE_no {x : Int} (h : ¬ In128 x) : wideE x = .tuple #[.agg #[.int .i64 0, .int .u64 0], .int .i64 7] := if_neg h
end Go.Proofs.YtldnponbkhgijaaDoor
end
section
namespace Go.Proofs.YtldnponbkhgijaaDoor
open Go.ChangeShapes Go.WideShapes Go.ChangeAt Go.RowKit
set_option linter.unusedVariables false
set_option linter.unusedSimpArgs false

def absI (x : Int) : Int := if x < 0 then -x else x
theorem hi_neg {x : Int} (h : In128 x) : hiN x < 0 ↔ x < 0 := by
  rw [hi_in h]; unfold In128 at h; omega
set_option maxHeartbeats 2000000 in
theorem size_any (x : Int) (hx : In128 x) (w : World) :
    Calls Tryd.prog 41 #[.agg #[.int .i64 (hiN x), .int .u64 (loN x)]] w fun e w' =>
      e = .returned (.tuple #[.int .u64 (IntKind.u64.wrap (hiN (absI x))), .int .u64 (loN (absI x))]) ∧ Below w.heap.size w w' := by
  by_cases hn : x < 0
  · have hneg : hiN x < 0 := (hi_neg hx).2 hn
    have HA := Lib.hid (show absI x = -x from if_pos hn)
    clear hn
    go_enter Tryd.func41, Tryd.ntmps41
    go_wp2_with fail
    refine (long_any x hx _).mono ?_
    rintro e w1 ⟨rfl, hb1⟩
    have B1 := (T2.new w (hiN x) (loN x) 52).below hb1
    have hB1 := since_step (since_alloc (Below.refl _ _) _) hb1
    have C1 := B1.alloc (.cells #[.int .i64 (hiN x), .int .u64 (loN x), .int .i64 (topN x)] 73)
    have D1 := T3.new w1 x 73
    have hC1 := since_alloc hB1 (.cells #[.int .i64 (hiN x), .int .u64 (loN x), .int .i64 (topN x)] 73)
    unfold sumV
    clear hb1
    obtain ⟨p0, p1, p2, p3, p4⟩ := id B1
    go_wp2_with fail
    refine (minus_any x _).mono ?_
    rintro e w2 ⟨rfl, hb2⟩
    have E := D1.below hb2
    have hE := since_step hC1 hb2
    obtain ⟨q0, q1, q2, q3, q4, q5, q6⟩ := id E
    have hcs := @cell_set
    unfold sumV
    have hB0 : w.heap.size ≤ w1.heap.size := hB1.size
    clear hb2 p0 p1 p2 p3 p4 B1 C1 D1 hB1 hC1
    go_wp2_with fail
    go_quiet (fail)
    go_wp2
    go_ret2
    refine ⟨by rw [HA.out]; rfl, below_drewN ?_ _⟩
    repeat' (first | with_reducible exact hE | with_reducible refine Below.setCell ?_ ?_ _)
    all_goals exact hB0
  · have hneg : ¬ hiN x < 0 := fun h => hn ((hi_neg hx).1 h)
    have HA := Lib.hid (show absI x = x from if_neg hn)
    clear hn
    go_enter Tryd.func41, Tryd.ntmps41
    go_wp2_with fail
    refine (long_any x hx _).mono ?_
    rintro e w1 ⟨rfl, hb1⟩
    have B1 := (T2.new w (hiN x) (loN x) 52).below hb1
    have hB1 := since_step (since_alloc (Below.refl _ _) _) hb1
    unfold sumV
    clear hb1
    obtain ⟨p0, p1, p2, p3, p4⟩ := id B1
    go_wp2_with fail
    go_quiet (fail)
    go_wp2
    go_ret2
    exact ⟨by rw [HA.out]; rfl, below_drewN (since_alloc hB1 _) _⟩
end Go.Proofs.YtldnponbkhgijaaDoor
end
section
namespace Go.Proofs
open Go.Shelf
def Tryd.lays283_ren : Go.Shelf.Ren := ⟨fun | 283 => 66 | n => n, fun | 3 => 3 | 9 => 9 | 4 => 4 | n => n, fun | n => n⟩
theorem Tryd.lays283 : Go.Proofs.Lays.n283 Tryd.prog Tryd.lays283_ren := {
  mixed := by kernel_rfl
  f283 := Tryd.func66.trans (congrArg some (by kernel_rfl))
  t3 := Tryd.underlying3
  a3 := Tryd.isAgg3
  z3 := Tryd.sizeOf3
  v3 := Tryd.zeroValue3
  t4 := Tryd.underlying4
  a4 := Tryd.isAgg4
  z4 := Tryd.sizeOf4
  v4 := Tryd.zeroValue4
  t9 := Tryd.underlying9
  a9 := Tryd.isAgg9
  z9 := Tryd.sizeOf9
  v9 := Tryd.zeroValue9 }
open Go.Lib in
theorem Tryd.internal_strconv_small (i : Nat) (h : i < 100) (w : World) :
    Calls Tryd.prog 66 #[.int .i64 i] w fun e w' => e = .returned (.string ⟨(Lib.decDigits i).toArray⟩) ∧ w' = w := Any.internal_strconv_small Tryd.lays283 i h w
def Tryd.lays264_ren : Go.Shelf.Ren := ⟨fun | 264 => 61 | n => n, fun | 53 => 50 | 46 => 68 | n => n, fun | n => n⟩
theorem Tryd.lays264 : Go.Proofs.Lays.n264 Tryd.prog Tryd.lays264_ren := {
  mixed := by kernel_rfl
  f264 := Tryd.func61.trans (congrArg some (by kernel_rfl))
  t46 := Tryd.underlying68
  a46 := Tryd.isAgg68
  z46 := Tryd.sizeOf68
  v46 := Tryd.zeroValue68
  t53 := Tryd.underlying50
  a53 := Tryd.isAgg50
  z53 := Tryd.sizeOf50
  v53 := Tryd.zeroValue50 }
open Go.RowKit Go.Lib in
theorem Tryd.bits_Mul64 (x y : Nat) (hx : x < 18446744073709551616) (hy : y < 18446744073709551616) (w : World) :
    Calls Tryd.prog 61 #[.int .u64 x, .int .u64 y] w fun e w' => e = .returned (.tuple #[.int .u64 ((x * y / 18446744073709551616 : Nat) : Int), .int .u64 ((x * y % 18446744073709551616 : Nat) : Int)]) ∧ w' = w := Any.bits_Mul64 Tryd.lays264 x y hx hy w
end Go.Proofs
end
section
namespace Go.Proofs.YtldnponbkhgijaaDoor
open Go.ChangeShapes Go.WideShapes Go.ChangeAt Go.RowKit
set_option linter.unusedVariables false
set_option linter.unusedSimpArgs false

theorem mul64_run (x y : Nat) (hx : x < 18446744073709551616) (hy : y < 18446744073709551616) :
    ∃ h l : Nat, (∀ w, Calls Tryd.prog 61 #[.int .u64 x, .int .u64 y] w fun e w' => e = .returned (.tuple #[.int .u64 (h : Int), .int .u64 (l : Int)]) ∧ w = w') ∧ x * y = h * 18446744073709551616 + l ∧ l < 18446744073709551616 := by
  refine ⟨x * y / 18446744073709551616, x * y % 18446744073709551616, fun w => ?_, by omega, by omega⟩
  exact (Go.Proofs.Tryd.bits_Mul64 x y hx hy w).mono fun e w' ⟨he, hw⟩ => ⟨he, hw.symm⟩
def szH (x : Int) : Nat := x.natAbs / 18446744073709551616
def szL (x : Int) : Nat := x.natAbs % 18446744073709551616
theorem size_nat (x : Int) (hx : In128 x) (w : World) :
    Calls Tryd.prog 41 #[.agg #[.int .i64 (hiN x), .int .u64 (loN x)]] w fun e w' =>
      e = .returned (.tuple #[.int .u64 (szH x : Int), .int .u64 (szL x : Int)]) ∧ Below w.heap.size w w' := by
  refine (size_any x hx w).mono fun e w' ⟨he, hw⟩ => ⟨?_, hw⟩
  have ha : absI x = (x.natAbs : Int) := by unfold absI; split <;> omega
  rw [he, ha, uhi]
  unfold szH szL loN
  unfold In128 at hx
  have e1 : (x.natAbs : Int) / 18446744073709551616 % 18446744073709551616 = ((x.natAbs / 18446744073709551616 : Nat) : Int) := by omega
  have e2 : (x.natAbs : Int) % 18446744073709551616 = ((x.natAbs % 18446744073709551616 : Nat) : Int) := by omega
  rw [e1, e2]
theorem times_parts (X K H L P Q m c t : Int) (low mid carry : Int) (hX : X = H * 18446744073709551616 + L) (hP : P = H * K) (hQ : Q = L * K)
    (q : Q = carry * 18446744073709551616 + low) (ql : 0 ≤ low ∧ low < 18446744073709551616) (p : P = t * 18446744073709551616 + mid) (pl : 0 ≤ mid ∧ mid < 18446744073709551616)
    (hm : mid + carry + 0 = m + 18446744073709551616 * c) (ml : 0 ≤ m ∧ m < 18446744073709551616) :
    loN (X * K) = low ∧ hiN (X * K) = IntKind.i64.wrap m ∧ topN (X * K) = IntKind.i64.wrap (IntKind.u64.wrap (t + c)) := by
  have e : X * K = P * 18446744073709551616 + Q := by rw [hX, hP, hQ, Int.add_mul]; congr 1; rw [Int.mul_assoc, Int.mul_comm 18446744073709551616 K, ← Int.mul_assoc]
  rw [e]
  clear e hX hP hQ
  have e2 : P * 18446744073709551616 + Q = (t + c) * 340282366920938463463374607431768211456 + m * 18446744073709551616 + low := by omega
  rw [e2]
  clear e2 q p
  generalize t + c = T
  unfold loN hiN topN
  refine ⟨by omega, ?_, ?_⟩
  · rw [IntKind.wrap_i64, IntKind.wrap_i64]; omega
  · rw [IntKind.wrap_i64, IntKind.wrap_i64, IntKind.wrap_u64]; omega
theorem mul_bound (x n : Int) (hx : In128 x) (hn : In64 n) : In192 (x * n) := by
  unfold In128 at hx
  unfold In64 at hn
  have h : (x * n).natAbs ≤ 170141183460469231731687303715884105728 * 9223372036854775808 := by
    rw [Int.natAbs_mul]
    exact Nat.mul_le_mul (by omega) (by omega)
  unfold In192
  omega
theorem signs (x n : Int) : (if (decide (x < 0)) = (decide (n < 0)) then ((x.natAbs : Int) * (n.natAbs : Int)) else -((x.natAbs : Int) * (n.natAbs : Int))) = x * n := by
  by_cases h1 : x < 0 <;> by_cases h2 : n < 0
  · have e1 : (x.natAbs : Int) = -x := by omega
    have e2 : (n.natAbs : Int) = -n := by omega
    rw [if_pos (by simp [h1, h2]), e1, e2, Int.neg_mul_neg]
  · have e1 : (x.natAbs : Int) = -x := by omega
    have e2 : (n.natAbs : Int) = n := by omega
    rw [if_neg (by simp [h1, h2]), e1, e2, Int.neg_mul, Int.neg_neg]
  · have e1 : (x.natAbs : Int) = x := by omega
    have e2 : (n.natAbs : Int) = -n := by omega
    rw [if_neg (by simp [h1, h2]), e1, e2, Int.mul_neg, Int.neg_neg]
  · have e1 : (x.natAbs : Int) = x := by omega
    have e2 : (n.natAbs : Int) = n := by omega
    rw [if_pos (by simp [h1, h2]), e1, e2]
def eH (z : Int) : Int := if In128 z then hiN z else 0
def eL (z : Int) : Int := if In128 z then loN z else 0
def eE (z : Int) : Int := if In128 z then 0 else 7
theorem wideE_form (z : Int) : wideE z = .tuple #[.agg #[.int .i64 (eH z), .int .u64 (eL z)], .int .i64 (eE z)] := by
  unfold wideE eH eL eE
  split <;> rfl
theorem narrow_any (z : Int) (h : In192 z) (w : World) :
    Calls Tryd.prog 63 #[.agg #[.int .i64 (hiN z), .int .u64 (loN z), .int .i64 (topN z)]] w fun e w' => e = .returned (.tuple #[.agg #[.int .i64 (eH z), .int .u64 (eL z)], .int .i64 (eE z)]) ∧ Below w.heap.size w w' := by
  by_cases hin : In128 z
  · refine (narrow_yes z hin w).mono fun e w' ⟨he, hw⟩ => ⟨?_, hw⟩
    rw [he, ← wideE_form, wideE_yes hin]
  · refine (narrow_no z h hin w).mono fun e w' ⟨he, hw⟩ => ⟨?_, hw⟩
    rw [he, ← wideE_form, wideE_no hin]
set_option maxHeartbeats 2000000 in
theorem wtimes_any (x n : Int) (hx : In128 x) (hn : In64 n) (w : World) :
    Calls Tryd.prog 47 #[.agg #[.int .i64 (hiN x), .int .u64 (loN x)], .int .i64 n] w fun e w' => e = .returned (wideE (x * n)) ∧ Below w.heap.size w w' := by
  have hn128 := (of_in n hn).2.2
  have lX : szL x < 18446744073709551616 := by unfold szL; omega
  have lH : szH x < 18446744073709551616 := by unfold szH; unfold In128 at hx; omega
  have lK : szL n < 18446744073709551616 := by unfold szL; omega
  obtain ⟨carry, low, M1, p1, p1l⟩ := mul64_run (szL x) (szL n) lX lK
  obtain ⟨top, mid, M2, p2, p2l⟩ := mul64_run (szH x) (szL n) lH lK
  have hcl : carry < 18446744073709551616 := by
    have : szL x * szL n < 18446744073709551616 * 18446744073709551616 := by
      rcases Nat.eq_zero_or_pos (szL n) with h | h
      · rw [h]; simp
      · exact Nat.lt_of_lt_of_le (Nat.mul_lt_mul_of_pos_right lX h) (Nat.mul_le_mul_left _ (by omega))
    omega
  obtain ⟨m, c, r1, e1, b1, c1⟩ := add64_run (mid : Int) (carry : Int) 0 ⟨by omega, by omega⟩ ⟨by omega, by omega⟩ ⟨by omega, by omega⟩
  have hK : (szL n : Int) = (n.natAbs : Int) := by unfold szL; unfold In64 at hn; omega
  have parts := times_parts (x.natAbs : Int) (szL n) (szH x) (szL x) _ _ m c top low mid carry (by unfold szH szL; omega) rfl rfl
    (by have h : ((szL x * szL n : Nat) : Int) = ((carry * 18446744073709551616 + low : Nat) : Int) := by rw [p1]
        simpa using h) ⟨by omega, by omega⟩
    (by have h : ((szH x * szL n : Nat) : Int) = ((top * 18446744073709551616 + mid : Nat) : Int) := by rw [p2]
        simpa using h) ⟨by omega, by omega⟩ e1 b1
  rw [hK] at parts
  generalize hY : (x.natAbs : Int) * (n.natAbs : Int) = Y at parts
  have hsg := signs x n
  rw [hY] at hsg
  have h192 := mul_bound x n hx hn
  have Hs := Lib.hid hsg
  have HP := Lib.hid (show (low : Int) = loN Y ∧ wrap64 m = hiN Y ∧ wrap64 (IntKind.u64.wrap ((top : Int) + c)) = topN Y from ⟨parts.1.symm, by rw [wrap64_eq]; exact parts.2.1.symm, by rw [wrap64_eq]; exact parts.2.2.symm⟩)
  have hM1 := Lib.hid M1
  have hM2 := Lib.hid M2
  have hlt := hi_neg hx
  clear p1 p1l p2 p2l hcl e1 b1 hK hY parts hsg M1 M2 lX lH lK
  have HE := Lib.hid (wideE_form (x * n))
  go_enter Tryd.func47, Tryd.ntmps47
  go_wp2_with fail
  refine (size_nat x hx _).mono ?_
  rintro e w1 ⟨rfl, hb1⟩
  have A1 := ((T2.new w (hiN x) (loN x) 52).alloc (.cells #[.int .i64 0, .int .u64 0] 52)).below hb1
  have A2 : T2 w1 (w.heap.size + 1) 0 0 := by
    have := (T2.new (w.alloc (.cells #[.int .i64 (hiN x), .int .u64 (loN x)] 52)) 0 0 52).below hb1
    rwa [World.size_alloc] at this
  have hB1 := since_step (since_alloc (since_alloc (Below.refl _ _) _) _) hb1
  clear hb1
  go_wp2_with fail
  refine (wof_any n hn _).mono ?_
  rintro e w2 ⟨rfl, hb2⟩
  have B1 := A1.below hb2
  have B2 := A2.below hb2
  have hB2 := since_step hB1 hb2
  clear hb2 A1 A2 hB1
  go_wp2_with fail
  refine (size_nat n hn128 _).mono ?_
  rintro e w3 ⟨rfl, hb3⟩
  have C1 := B1.below hb3
  have C2 := B2.below hb3
  have hB3 := since_step hB2 hb3
  clear hb3 B1 B2 hB2
  go_wp2_with fail
  refine (hM1.out _).mono ?_
  rintro e w' ⟨rfl, rfl⟩
  go_wp2_with fail
  refine (hM2.out _).mono ?_
  rintro e w' ⟨rfl, rfl⟩
  clear hM1 hM2 hx hn hn128
  obtain ⟨p0, p1, p2, p3, p4⟩ := id C1
  have g12 : w.heap.size + 1 < w3.heap.size := C2.1
  by_cases h1 : x < 0
  · have g1 : hiN x < 0 := hlt.2 h1
    by_cases h2 : n < 0
    · have hY : Y = x * n := by rw [← Hs.out, if_pos (by simp [h1, h2])]
      subst hY
      clear Hs h1 hlt
      go_wp2_with fail
      rw [HP.out.1, HP.out.2.1, HP.out.2.2]
      refine (narrow_any (x * n) h192 _).mono ?_
      rintro e w4 ⟨rfl, hb4⟩
      have D2 := (C2.alloc (.cells #[.int .i64 (hiN (x * n)), .int .u64 (loN (x * n)), .int .i64 (topN (x * n))] 73)).below hb4
      have hB4 := since_step (since_alloc hB3 (.cells #[.int .i64 (hiN (x * n)), .int .u64 (loN (x * n)), .int .i64 (topN (x * n))] 73)) hb4
      obtain ⟨q0, q1, q2, q3, q4⟩ := id D2
      have hcs := @cell_set
      clear hb4 C1 C2 p0 p1 p2 p3 p4 hB3
      go_wp2
      refine bodyPost_ret (v := .tuple #[.agg #[.int .i64 (eH (x * n)), .int .u64 (eL (x * n))], .int .i64 (eE (x * n))]) ?_ rfl ?_
      · simp [results, Tryd.results47, go_sem, cell_set, q1, q2]
      · refine ⟨by rw [HE.out], ?_⟩
        repeat' (first | with_reducible exact hB4 | with_reducible refine Below.setCell ?_ ?_ _)
        all_goals first | (simp; done) | (simp; omega)
    · have hY : -Y = x * n := by rw [← Hs.out, if_neg (by simp [h1, h2])]
      have hd : (!decide (n < 0)) = true := by simp; omega
      clear Hs h1 hlt
      go_wp2_with fail
      rw [HP.out.1, HP.out.2.1, HP.out.2.2]
      refine (minus_any Y _).mono ?_
      rintro e w4 ⟨rfl, hb4⟩
      have D2 := (C2.alloc (.cells #[.int .i64 (hiN Y), .int .u64 (loN Y), .int .i64 (topN Y)] 73)).below hb4
      have D3 := (T3.new w3 Y 73).below hb4
      have hB4 := since_step (since_alloc hB3 (.cells #[.int .i64 (hiN Y), .int .u64 (loN Y), .int .i64 (topN Y)] 73)) hb4
      obtain ⟨q0, q1, q2, q3, q4⟩ := id D2
      obtain ⟨u0, u1, u2, u3, u4, u5, u6⟩ := id D3
      have E2 := ((D2.far (p := ⟨w3.heap.size, 0, none⟩) (by simp; omega) (.int .i64 (hiN (x * n)))).far (p := ⟨w3.heap.size, 1, none⟩) (by simp; omega) (.int .u64 (loN (x * n)))).far (p := ⟨w3.heap.size, 2, none⟩) (by simp; omega) (.int .i64 (topN (x * n)))
      have hC4 : Below w.heap.size w (((w4.setCell ⟨w3.heap.size, 0, none⟩ (.int .i64 (hiN (x * n)))).setCell ⟨w3.heap.size, 1, none⟩ (.int .u64 (loN (x * n)))).setCell ⟨w3.heap.size, 2, none⟩ (.int .i64 (topN (x * n)))) :=
        ((hB4.setCell (p := ⟨w3.heap.size, 0, none⟩) (by simp; omega) _).setCell (p := ⟨w3.heap.size, 1, none⟩) (by simp; omega) _).setCell (p := ⟨w3.heap.size, 2, none⟩) (by simp; omega) _
      have hcs := @cell_set
      unfold sumV
      rw [hY]
      clear hb4 C1 C2 p0 p1 p2 p3 p4 hB3 q0 q1 q2 q3 q4 hB4
      go_wp2_with fail
      refine (narrow_any (x * n) h192 _).mono ?_
      rintro e w5 ⟨rfl, hb5⟩
      have F2 := E2.below hb5
      have hB5 := since_step hC4 hb5
      obtain ⟨q0, q1, q2, q3, q4⟩ := id F2
      clear hb5
      go_wp2
      refine bodyPost_ret (v := .tuple #[.agg #[.int .i64 (eH (x * n)), .int .u64 (eL (x * n))], .int .i64 (eE (x * n))]) ?_ rfl ?_
      · simp [results, Tryd.results47, go_sem, cell_set, q1, q2]
      · refine ⟨by rw [HE.out], ?_⟩
        repeat' (first | with_reducible exact hB5 | with_reducible refine Below.setCell ?_ ?_ _)
        all_goals first | (simp; done) | (simp; omega)
  · have g1 : ¬ hiN x < 0 := fun h => h1 (hlt.1 h)
    by_cases h2 : n < 0
    · have hY : -Y = x * n := by rw [← Hs.out, if_neg (by simp [h1, h2])]
      have hd : decide (n < 0) = true := by simp; omega
      have hd2 : decide (hiN x < 0) = false := by simp; omega
      clear Hs h1 hlt
      go_wp2_with fail
      rw [HP.out.1, HP.out.2.1, HP.out.2.2]
      refine (minus_any Y _).mono ?_
      rintro e w4 ⟨rfl, hb4⟩
      have D2 := (C2.alloc (.cells #[.int .i64 (hiN Y), .int .u64 (loN Y), .int .i64 (topN Y)] 73)).below hb4
      have D3 := (T3.new w3 Y 73).below hb4
      have hB4 := since_step (since_alloc hB3 (.cells #[.int .i64 (hiN Y), .int .u64 (loN Y), .int .i64 (topN Y)] 73)) hb4
      obtain ⟨q0, q1, q2, q3, q4⟩ := id D2
      obtain ⟨u0, u1, u2, u3, u4, u5, u6⟩ := id D3
      have E2 := ((D2.far (p := ⟨w3.heap.size, 0, none⟩) (by simp; omega) (.int .i64 (hiN (x * n)))).far (p := ⟨w3.heap.size, 1, none⟩) (by simp; omega) (.int .u64 (loN (x * n)))).far (p := ⟨w3.heap.size, 2, none⟩) (by simp; omega) (.int .i64 (topN (x * n)))
      have hC4 : Below w.heap.size w (((w4.setCell ⟨w3.heap.size, 0, none⟩ (.int .i64 (hiN (x * n)))).setCell ⟨w3.heap.size, 1, none⟩ (.int .u64 (loN (x * n)))).setCell ⟨w3.heap.size, 2, none⟩ (.int .i64 (topN (x * n)))) :=
        ((hB4.setCell (p := ⟨w3.heap.size, 0, none⟩) (by simp; omega) _).setCell (p := ⟨w3.heap.size, 1, none⟩) (by simp; omega) _).setCell (p := ⟨w3.heap.size, 2, none⟩) (by simp; omega) _
      have hcs := @cell_set
      unfold sumV
      rw [hY]
      clear hb4 C1 C2 p0 p1 p2 p3 p4 hB3 q0 q1 q2 q3 q4 hB4
      go_wp2_with fail
      refine (narrow_any (x * n) h192 _).mono ?_
      rintro e w5 ⟨rfl, hb5⟩
      have F2 := E2.below hb5
      have hB5 := since_step hC4 hb5
      obtain ⟨q0, q1, q2, q3, q4⟩ := id F2
      clear hb5
      go_wp2
      refine bodyPost_ret (v := .tuple #[.agg #[.int .i64 (eH (x * n)), .int .u64 (eL (x * n))], .int .i64 (eE (x * n))]) ?_ rfl ?_
      · simp [results, Tryd.results47, go_sem, cell_set, q1, q2]
      · refine ⟨by rw [HE.out], ?_⟩
        repeat' (first | with_reducible exact hB5 | with_reducible refine Below.setCell ?_ ?_ _)
        all_goals first | (simp; done) | (simp; omega)
    · have hY : Y = x * n := by rw [← Hs.out, if_pos (by simp [h1, h2])]
      subst hY
      have hd : decide (n < 0) = false := by simp; omega
      have hd2 : decide (hiN x < 0) = false := by simp; omega
      clear Hs h1 hlt
      go_wp2_with fail
      rw [HP.out.1, HP.out.2.1, HP.out.2.2]
      refine (narrow_any (x * n) h192 _).mono ?_
      rintro e w4 ⟨rfl, hb4⟩
      have D2 := (C2.alloc (.cells #[.int .i64 (hiN (x * n)), .int .u64 (loN (x * n)), .int .i64 (topN (x * n))] 73)).below hb4
      have hB4 := since_step (since_alloc hB3 (.cells #[.int .i64 (hiN (x * n)), .int .u64 (loN (x * n)), .int .i64 (topN (x * n))] 73)) hb4
      obtain ⟨q0, q1, q2, q3, q4⟩ := id D2
      have hcs := @cell_set
      clear hb4 C1 C2 p0 p1 p2 p3 p4 hB3
      go_wp2
      refine bodyPost_ret (v := .tuple #[.agg #[.int .i64 (eH (x * n)), .int .u64 (eL (x * n))], .int .i64 (eE (x * n))]) ?_ rfl ?_
      · simp [results, Tryd.results47, go_sem, cell_set, q1, q2]
      · refine ⟨by rw [HE.out], ?_⟩
        repeat' (first | with_reducible exact hB4 | with_reducible refine Below.setCell ?_ ?_ _)
        all_goals first | (simp; done) | (simp; omega)
end Go.Proofs.YtldnponbkhgijaaDoor
end
section
namespace Go.Proofs.YtldnponbkhgijaaDoor
open Go.ChangeShapes Go.WideShapes Go.ChangeAt Go.RowKit
set_option linter.unusedVariables false
set_option linter.unusedSimpArgs false

theorem mul_in128 {a b : Int} (ha : In64 a) (hb : In64 b) : In128 (a * b) := by
  unfold In64 at ha hb
  have h : (a * b).natAbs ≤ 9223372036854775808 * 9223372036854775808 := by
    rw [Int.natAbs_mul]
    exact Nat.mul_le_mul (by omega) (by omega)
  unfold In128
  omega
set_option maxHeartbeats 1000000 in
theorem wmul_any (a b : Int) (ha : In64 a) (hb : In64 b) (w : World) :
    Calls Tryd.prog 48 #[.int .i64 a, .int .i64 b] w fun e w' => e = .returned (.agg #[.int .i64 (hiN (a * b)), .int .u64 (loN (a * b))]) ∧ Below w.heap.size w w' := by
  have hin := mul_in128 ha hb
  have HE := Lib.hid (wideE_yes hin)
  have ha128 := (of_in a ha).2.2
  go_enter Tryd.func48, Tryd.ntmps48
  go_wp2_with fail
  refine (wof_any a ha _).mono ?_
  rintro e w1 ⟨rfl, hb1⟩
  have A1 := (T2.new w 0 0 52).below hb1
  have hB1 := since_step (since_alloc (Below.refl _ _) _) hb1
  clear hb1
  go_wp2_with fail
  refine (wtimes_any a b ha128 hb _).mono ?_
  rintro e w2 ⟨rfl, hb2⟩
  have A2 := A1.below hb2
  have hB2 := since_step hB1 hb2
  rw [HE.out]
  clear hb2 A1 hB1
  obtain ⟨q0, q1, q2, q3, q4⟩ := id A2
  have hcs := @cell_set
  go_wp2_with fail
  refine bodyPost_ret (v := .agg #[.int .i64 (hiN (a * b)), .int .u64 (loN (a * b))]) ?_ rfl ?_
  · simp [results, Tryd.results48, go_sem, World.cell?_alloc_lt, q0, cell_set, q1, q2]
  · refine ⟨rfl, ?_⟩
    repeat' (first | with_reducible exact hB2 | with_reducible exact since_alloc hB2 _ | with_reducible refine Below.setCell ?_ ?_ _ | with_reducible refine Below.alloc ?_ ?_ _)
    all_goals first | (simp; done) | (simp; omega) | exact hB2.size
def fV (x : Int) : Int := if In64 x then x else 0
def fE (x : Int) : Int := if In64 x then 0 else 7
theorem int_any (x : Int) (h : In128 x) (w : World) :
    Calls Tryd.prog 39 #[.agg #[.int .i64 (hiN x), .int .u64 (loN x)]] w fun e w' => e = .returned (.tuple #[.int .i64 (fV x), .int .i64 (fE x)]) ∧ Below w.heap.size w w' := by
  by_cases hx : In64 x
  · rw [show fV x = x from if_pos hx, show fE x = 0 from if_pos hx]; exact int_yes x hx w
  · rw [show fV x = 0 from if_neg hx, show fE x = 7 from if_neg hx]; exact int_no x h hx w
end Go.Proofs.YtldnponbkhgijaaDoor
end
