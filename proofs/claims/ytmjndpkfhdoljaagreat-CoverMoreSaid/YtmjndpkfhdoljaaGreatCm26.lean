import Derived.Deep.DeepCutAuto
import Derived.Deep.RegionHeld3
import Derived.Test.YtmjndpkfhdoljaaGreatCm25
import Derived.Test.YtmjndpkfhdoljaaGreatCm02
import Derived.Test.YtmjndpkfhdoljaaGreatCm12
set_option maxHeartbeats 16000000
set_option maxRecDepth 100000
set_option linter.unusedVariables false
set_option linter.unusedSimpArgs false
namespace Go.Proofs.YtmjndpkfhdoljaaGreat
open Go.ChangeShapes Go.WideShapes Go.ChangeAt Go.RowKit
section
def Lt.Tells2 (F : Nat) (caps : Array Value) (ah : Lt → Lt → Bool) (B : Nat) (w : World) : Prop :=
  ∀ (a b : Lt) (W : World), Below B w W → Calls Tryz.prog F (#[a.val, b.val] ++ caps) W fun e w' => e = .returned (.bool (ah a b)) ∧ Below W.heap.size W w'
theorem Lt.Tells2.below {F : Nat} {caps : Array Value} {ah : Lt → Lt → Bool} {B : Nat} {w w1 : World} (h : Lt.Tells2 F caps ah B w) (hb : Below B w w1) {C : Nat} (hC : B ≤ C) : Lt.Tells2 F caps ah C w1 :=
  fun a b W hW => h a b W (hb.trans (hW.mono hC))
structure Lt.Bx (w : World) (b : Nat) (g : Lt) : Prop where
  lt : b < w.heap.size
  at_ : g.at w b 0
  hp : w.heap[b]? = some (.cells g.cells.toArray 33 (0, 0))
theorem Lt.Bx.new (w : World) (g : Lt) : Lt.Bx (w.alloc (.cells g.cells.toArray 33)) w.heap.size g := by
  have h := heap_alloc_new w (.cells g.cells.toArray 33 (0, 0))
  refine ⟨by simp, Lt.at_of fun j u hu => ?_, h⟩
  rw [Nat.zero_add, cell_of_row _ _ j g.cells.toArray 33 (0, 0) h]
  simpa using hu
theorem Lt.Bx.below {w w' : World} {b : Nat} {g : Lt} (h : Lt.Bx w b g) (hb : Below w.heap.size w w') : Lt.Bx w' b g :=
  ⟨Nat.lt_of_lt_of_le h.lt hb.size, Lt.at_keep h.at_ fun i => hb.cell (p := ⟨b, i, none⟩) h.lt, (hb.block b h.lt).trans h.hp⟩
theorem Lt.Bx.sl {w : World} {b : Nat} {g : Lt} (h : Lt.Bx w b g) : Sl w (some ⟨b, 0, none⟩) g.cells := by
  intro _
  refine ⟨b, 0, rfl, fun j u hu => ?_⟩
  rw [Nat.zero_add, cell_of_row _ _ j g.cells.toArray 33 (0, 0) h.hp]
  simpa using hu
theorem Lt.Bx.got {w : World} {b : Nat} {g : Lt} (h : Lt.Bx w b g) : w.cell? ⟨b, 0, none⟩ = some (.int .i64 g.ast) ∧ w.cell? ⟨b, 1, none⟩ = some (.int .i64 g.tag) ∧ w.cell? ⟨b, 2, none⟩ = some (.int .i64 g.qty) := by
  have := h.at_
  unfold Lt.at at this
  simpa only [Nat.zero_add] using this
theorem rising_lt (A : Option Addr) (cap : Nat) (l : List Lt) (F : Nat) (caps : Array Value) (ah : Lt → Lt → Bool) (w : World) (hl : l.length ≤ 1000000) (hs : Sl w A (rc Lt.cells l)) (hF : Ent Tryz.prog F) (hp : Lt.Tells2 F caps ah w.heap.size w) :
    Calls Tryz.prog 93 #[.slice A l.length cap, .func (.func F) #[] caps] w fun e w' => e = .returned (.bool (risingL ah l)) ∧ Below w.heap.size w w' := by
  go_enter Tryz.func93, Tryz.ntmps93
  go_wp2_with fail
  go_loopw [5] (fun i wr => ∃ k : Nat, i = .int .i64 ((k : Int) + 1) ∧ (k ≤ l.length) ∧ (∀ j, (hj : j + 1 < l.length) → j < k → ah (l[j]'(by omega)) l[j + 1] = true) ∧ Below w.heap.size w wr) (fun i _ => l.length + 1 - (intOf i).toNat)
  case atStart => exact ⟨0, by first | rfl | go_num, by omega, fun j hj h => absurd h (by omega), Below.refl _ _⟩
  case round =>
    obtain ⟨k, rfl, hk, hno, hB⟩ := hrel
    by_cases hlt2 : k + 1 < l.length
    · have hkl : k < l.length := by omega
      obtain ⟨b, o, rfl, hbw, hg⟩ := hs.lt hkl
      obtain ⟨b', o', e, hbw', hg'⟩ := hs.lt hlt2
      injection e with e
      injection e with e1 e2 e3
      subst e1; subst e2
      have hg1 : l[k].at wr b (o + k * 3) := Lt.at_keep (w := w) hg fun i => hB.cell (p := ⟨b, i, none⟩) hbw
      have hg2 : l[k + 1].at wr b (o + (k + 1) * 3) := Lt.at_keep (w := w) hg' fun i => hB.cell (p := ⟨b, i, none⟩) hbw
      have HG1 := Lib.hid hg1
      have HG2 := Lib.hid hg2
      have hbr : b < wr.heap.size := Nat.lt_of_lt_of_le hbw hB.size
      have HK : Hid (∀ V, Below wr.heap.size wr V → l[k].at V b (o + k * 3) ∧ l[k + 1].at V b (o + (k + 1) * 3)) := Lib.hid fun V hV =>
        ⟨Lt.at_keep (w := wr) HG1.out fun i => hV.cell (p := ⟨b, i, none⟩) hbr, Lt.at_keep (w := wr) HG2.out fun i => hV.cell (p := ⟨b, i, none⟩) hbr⟩
      have HP : Hid (∀ V, Below wr.heap.size wr V → _) := Lib.hid fun V hV => hp l[k] l[k + 1] V (since_step hB hV)
      obtain ⟨q, hq⟩ : ∃ q, ah l[k] l[k + 1] = q := ⟨_, rfl⟩
      have HXq : Hid (if q then (∀ j, (hj : j + 1 < l.length) → j < k + 1 → ah (l[j]'(by omega)) l[j + 1] = true) else risingL ah l = false) := Lib.hid (by
        cases q with
        | true =>
          intro j hj hjk
          rcases Nat.lt_or_ge j k with h | h
          · exact hno j hj h
          · obtain rfl : j = k := by omega
            exact hq
        | false => exact risingL_false hlt2 hq)
      have HQ := Lib.hid hq
      clear hno hp hg hg' hg1 hg2 HG1 HG2 hq
      generalize l[k] = ga at HK HP HQ
      generalize l[k + 1] = gb at HK HP HQ
      have hw0 : IntKind.i64.wrap (k : Int) = (k : Int) := by rw [IntKind.wrap_i64]; omega
      have hw2 : IntKind.i64.wrap ((k : Int) + 1 + 1) = (k : Int) + 1 + 1 := by rw [IntKind.wrap_i64]; omega
      have hn0 : (0 : Int) ≤ (k : Int) := by omega
      have hn1 : (0 : Int) ≤ (k : Int) + 1 := by omega
      have htn : ((k : Int) + 1).toNat = k + 1 := by omega
      have hlt3 : (k : Int) + 1 < (l.length : Int) := by omega
      clear hs hbw hbw'
      go_wp2_with fail
      refine wp_region_held_drew (S := (fun V => Below wr.heap.size wr V)) (by kernel_rfl) (by exact (Below.refl _ _).drew) (fun hHeld => ?_)
      refine tkI 0 12 rfl (by intro w hSw; obtain ⟨⟨g0, g1, g2⟩, h0, h1, h2⟩ := HK.out _ hSw; go_simp <;> with_reducible rfl) hHeld ?_; simp only [pqZ]
      refine tkI 1 13 rfl (by intro w hSw; obtain ⟨⟨g0, g1, g2⟩, h0, h1, h2⟩ := HK.out _ hSw; go_simp <;> with_reducible rfl) hHeld ?_; simp only [pqZ]
      refine tkI 2 14 rfl (by intro w hSw; obtain ⟨⟨g0, g1, g2⟩, h0, h1, h2⟩ := HK.out _ hSw; go_simp <;> with_reducible rfl) hHeld ?_; simp only [pqZ]
      refine tkI 3 15 rfl (by intro w hSw; obtain ⟨⟨g0, g1, g2⟩, h0, h1, h2⟩ := HK.out _ hSw; go_simp <;> with_reducible rfl) hHeld ?_; simp only [pqZ]
      refine tkI 4 16 rfl (by intro w hSw; obtain ⟨⟨g0, g1, g2⟩, h0, h1, h2⟩ := HK.out _ hSw; go_simp <;> with_reducible rfl) hHeld ?_; simp only [pqZ]
      refine tkI 5 17 rfl (by intro w hSw; obtain ⟨⟨g0, g1, g2⟩, h0, h1, h2⟩ := HK.out _ hSw; go_simp <;> with_reducible rfl) hHeld ?_; simp only [pqZ]
      refine tkI 6 18 rfl (by intro w hSw; obtain ⟨⟨g0, g1, g2⟩, h0, h1, h2⟩ := HK.out _ hSw; go_simp <;> with_reducible rfl) hHeld ?_; simp only [pqZ]
      refine tkI 7 19 rfl (by intro w hSw; obtain ⟨⟨g0, g1, g2⟩, h0, h1, h2⟩ := HK.out _ hSw; go_simp <;> with_reducible rfl) hHeld ?_; simp only [pqZ]
      refine tkI 8 20 rfl (by intro w hSw; obtain ⟨⟨g0, g1, g2⟩, h0, h1, h2⟩ := HK.out _ hSw; go_simp <;> with_reducible rfl) hHeld ?_; simp only [pqZ]
      refine tkI 9 21 rfl (by intro w hSw; obtain ⟨⟨g0, g1, g2⟩, h0, h1, h2⟩ := HK.out _ hSw; go_simp <;> with_reducible rfl) hHeld ?_; simp only [pqZ]
      refine rdZ 10 22 rfl (by kernel_rfl) (fun K hK => ?_)
      go_simp
      rw [hF, Oper.upon_enter]
      refine (HP.out _ hHeld).mono ?_
      rintro e u1 ⟨rfl, hk1⟩
      have hKeep := since_step hHeld hk1
      rw [HQ.out]
      go_wp2_with fail
      refine hK.out _ _ (by (try dsimp only); exact hKeep) (fun hHeld => ?_); clear hK K hKeep; try simp only [pqZ]
      refine tkI 11 23 rfl (by intro w hSw; obtain ⟨⟨g0, g1, g2⟩, h0, h1, h2⟩ := HK.out _ hSw; go_simp <;> with_reducible rfl) hHeld ?_; simp only [pqZ]
      refine wpAnyH_done (by kernel_rfl) ?_ _
      have hB2 := since_step hB hHeld
      cases q with
      | true =>
        go_wp2_with fail
        go_roundw
        case rel => exact ⟨k + 1, by go_num, by omega, by simpa using HXq.out, hB2⟩
        case measure => simp [intOf]; omega
      | false =>
        have hr : risingL ah l = false := by simpa using HXq.out
        have HR := Lib.hid hr
        clear hr
        go_wp2_with fail
        go_ret
        exact ⟨retB HR.out.symm, hB2⟩
    · have hrt : risingL ah l = true := (risingL_iff ah l).2 fun j hj => hno j hj (by omega)
      have HR := Lib.hid hrt
      have hge : ¬ ((k : Int) + 1 < (l.length : Int)) := by omega
      clear hno hrt
      go_wp2_with fail
      go_ret
      exact ⟨retB HR.out.symm, hB⟩
end
section
def okL (x : Lt) : Bool := decide (1 ≤ x.ast) && decide (x.ast ≤ 4) && decide (0 ≤ x.tag) && decide (x.tag ≤ 255) && decide (0 < x.qty)
def ltL (x y : Lt) : Prop := x.ast < y.ast ∨ (x.ast = y.ast ∧ x.tag < y.tag)
instance (x y : Lt) : Decidable (ltL x y) := by unfold ltL; infer_instance
def ahL (x y : Lt) : Bool := decide (ltL x y)
def isLs (l : List Lt) : Bool := l.all okL && decide (l.length ≤ 16) && risingL ahL l
def sameL (a t : Int) (x : Lt) : Bool := x.ast == a && x.tag == t
def getL (l : List Lt) (a t : Int) : Int := (pickL (sameL a t) Lt.zero l).qty
def chkL (l : List Lt) (x : Lt) : Int := if isLs l = false then 3 else if okL x = false then 2 else 0
theorem fit_any (x : Lt) (w : World) : Calls Tryz.prog 92 #[x.val] w fun e w' => e = .returned (.bool (okL x)) ∧ Below w.heap.size w w' := by
  have hB := since_alloc (Below.refl _ w) (.cells x.cells.toArray 33)
  have hways : (x.ast < 1) ∨ (1 ≤ x.ast ∧ 4 < x.ast) ∨ (1 ≤ x.ast ∧ x.ast ≤ 4 ∧ x.tag < 0) ∨ (1 ≤ x.ast ∧ x.ast ≤ 4 ∧ 0 ≤ x.tag ∧ 255 < x.tag) ∨ (1 ≤ x.ast ∧ x.ast ≤ 4 ∧ 0 ≤ x.tag ∧ x.tag ≤ 255 ∧ x.qty ≤ 0) ∨ (1 ≤ x.ast ∧ x.ast ≤ 4 ∧ 0 ≤ x.tag ∧ x.tag ≤ 255 ∧ 0 < x.qty) := by omega
  unfold Lt.val
  unfold Lt.cells at hB
  rcases hways with hw | hw | hw | hw | hw | hw
  · have HE : Hid (okL x = false) := Lib.hid (by simp [okL]; omega)
    have c0 : ¬ (1 ≤ x.ast) := by omega
    have c1 : ¬ (0 < x.ast) := by omega
    clear hw
    go_enter Tryz.func92, Tryz.ntmps92
    go_wp2_with fail
    go_ret
    exact ⟨retB HE.out.symm, hB⟩
  · have HE : Hid (okL x = false) := Lib.hid (by simp [okL]; omega)
    have c0 : 1 ≤ x.ast := hw.1
    have c1 : 0 < x.ast := by omega
    have c2 : ¬ x.ast ≤ 4 := by omega
    have c3 : ¬ x.ast < 5 := by omega
    clear hw
    go_enter Tryz.func92, Tryz.ntmps92
    go_wp2_with fail
    go_ret
    exact ⟨retB HE.out.symm, hB⟩
  · have HE : Hid (okL x = false) := Lib.hid (by simp [okL]; omega)
    have c0 : 1 ≤ x.ast := hw.1
    have c1 : 0 < x.ast := by omega
    have c2 : x.ast ≤ 4 := by omega
    have c3 : x.ast < 5 := by omega
    have c4 : ¬ 0 ≤ x.tag := by omega
    clear hw
    go_enter Tryz.func92, Tryz.ntmps92
    go_wp2_with fail
    go_ret
    exact ⟨retB HE.out.symm, hB⟩
  · have HE : Hid (okL x = false) := Lib.hid (by simp [okL]; omega)
    have c0 : 1 ≤ x.ast := hw.1
    have c1 : 0 < x.ast := by omega
    have c2 : x.ast ≤ 4 := by omega
    have c3 : x.ast < 5 := by omega
    have c4 : 0 ≤ x.tag := by omega
    have c5 : ¬ x.tag ≤ 255 := by omega
    have c6 : ¬ x.tag < 256 := by omega
    clear hw
    go_enter Tryz.func92, Tryz.ntmps92
    go_wp2_with fail
    go_ret
    exact ⟨retB HE.out.symm, hB⟩
  · have HE : Hid (okL x = false) := Lib.hid (by simp [okL]; omega)
    have c0 : 1 ≤ x.ast := hw.1
    have c1 : 0 < x.ast := by omega
    have c2 : x.ast ≤ 4 := by omega
    have c3 : x.ast < 5 := by omega
    have c4 : 0 ≤ x.tag := by omega
    have c5 : x.tag ≤ 255 := by omega
    have c6 : x.tag < 256 := by omega
    have c7 : ¬ 0 < x.qty := by omega
    clear hw
    go_enter Tryz.func92, Tryz.ntmps92
    go_wp2_with fail
    go_ret
    exact ⟨retB HE.out.symm, hB⟩
  · have HE : Hid (okL x = true) := Lib.hid (by simp [okL]; omega)
    have c0 : 1 ≤ x.ast := hw.1
    have c1 : 0 < x.ast := by omega
    have c2 : x.ast ≤ 4 := by omega
    have c3 : x.ast < 5 := by omega
    have c4 : 0 ≤ x.tag := by omega
    have c5 : x.tag ≤ 255 := by omega
    have c6 : x.tag < 256 := by omega
    have c7 : 0 < x.qty := by omega
    clear hw
    go_enter Tryz.func92, Tryz.ntmps92
    go_wp2_with fail
    go_ret
    exact ⟨retB HE.out.symm, hB⟩
theorem one_any (x : Lt) (w : World) : Calls Tryz.prog 70 #[x.val] w fun e w' => e = .returned (.bool (okL x)) ∧ Below w.heap.size w w' := by
  have hB := since_alloc (Below.refl _ w) (.cells x.cells.toArray 33)
  have hways : (x.ast < 1) ∨ (1 ≤ x.ast ∧ 4 < x.ast) ∨ (1 ≤ x.ast ∧ x.ast ≤ 4 ∧ x.tag < 0) ∨ (1 ≤ x.ast ∧ x.ast ≤ 4 ∧ 0 ≤ x.tag ∧ 255 < x.tag) ∨ (1 ≤ x.ast ∧ x.ast ≤ 4 ∧ 0 ≤ x.tag ∧ x.tag ≤ 255 ∧ x.qty ≤ 0) ∨ (1 ≤ x.ast ∧ x.ast ≤ 4 ∧ 0 ≤ x.tag ∧ x.tag ≤ 255 ∧ 0 < x.qty) := by omega
  unfold Lt.val
  unfold Lt.cells at hB
  rcases hways with hw | hw | hw | hw | hw | hw
  · have HE : Hid (okL x = false) := Lib.hid (by simp [okL]; omega)
    have c0 : ¬ (1 ≤ x.ast) := by omega
    have c1 : ¬ (0 < x.ast) := by omega
    clear hw
    go_enter Tryz.func70, Tryz.ntmps70
    go_wp2_with fail
    go_ret
    exact ⟨retB HE.out.symm, hB⟩
  · have HE : Hid (okL x = false) := Lib.hid (by simp [okL]; omega)
    have c0 : 1 ≤ x.ast := hw.1
    have c1 : 0 < x.ast := by omega
    have c2 : ¬ x.ast ≤ 4 := by omega
    have c3 : ¬ x.ast < 5 := by omega
    clear hw
    go_enter Tryz.func70, Tryz.ntmps70
    go_wp2_with fail
    go_ret
    exact ⟨retB HE.out.symm, hB⟩
  · have HE : Hid (okL x = false) := Lib.hid (by simp [okL]; omega)
    have c0 : 1 ≤ x.ast := hw.1
    have c1 : 0 < x.ast := by omega
    have c2 : x.ast ≤ 4 := by omega
    have c3 : x.ast < 5 := by omega
    have c4 : ¬ 0 ≤ x.tag := by omega
    clear hw
    go_enter Tryz.func70, Tryz.ntmps70
    go_wp2_with fail
    go_ret
    exact ⟨retB HE.out.symm, hB⟩
  · have HE : Hid (okL x = false) := Lib.hid (by simp [okL]; omega)
    have c0 : 1 ≤ x.ast := hw.1
    have c1 : 0 < x.ast := by omega
    have c2 : x.ast ≤ 4 := by omega
    have c3 : x.ast < 5 := by omega
    have c4 : 0 ≤ x.tag := by omega
    have c5 : ¬ x.tag ≤ 255 := by omega
    have c6 : ¬ x.tag < 256 := by omega
    clear hw
    go_enter Tryz.func70, Tryz.ntmps70
    go_wp2_with fail
    go_ret
    exact ⟨retB HE.out.symm, hB⟩
  · have HE : Hid (okL x = false) := Lib.hid (by simp [okL]; omega)
    have c0 : 1 ≤ x.ast := hw.1
    have c1 : 0 < x.ast := by omega
    have c2 : x.ast ≤ 4 := by omega
    have c3 : x.ast < 5 := by omega
    have c4 : 0 ≤ x.tag := by omega
    have c5 : x.tag ≤ 255 := by omega
    have c6 : x.tag < 256 := by omega
    have c7 : ¬ 0 < x.qty := by omega
    clear hw
    go_enter Tryz.func70, Tryz.ntmps70
    go_wp2_with fail
    go_ret
    exact ⟨retB HE.out.symm, hB⟩
  · have HE : Hid (okL x = true) := Lib.hid (by simp [okL]; omega)
    have c0 : 1 ≤ x.ast := hw.1
    have c1 : 0 < x.ast := by omega
    have c2 : x.ast ≤ 4 := by omega
    have c3 : x.ast < 5 := by omega
    have c4 : 0 ≤ x.tag := by omega
    have c5 : x.tag ≤ 255 := by omega
    have c6 : x.tag < 256 := by omega
    have c7 : 0 < x.qty := by omega
    clear hw
    go_enter Tryz.func70, Tryz.ntmps70
    go_wp2_with fail
    go_ret
    exact ⟨retB HE.out.symm, hB⟩
theorem lahead_any (x y : Lt) (w : World) : Calls Tryz.prog 94 #[x.val, y.val] w fun e w' => e = .returned (.bool (ahL x y)) ∧ Below w.heap.size w w' := by
  have hB := since_alloc (since_alloc (Below.refl _ w) (.cells x.cells.toArray 33)) (.cells y.cells.toArray 33)
  obtain ⟨ua, uc, uq⟩ := x
  obtain ⟨va, vc, vq⟩ := y
  unfold Lt.val Lt.cells at *
  simp only at hB ⊢
  by_cases h1 : ua < va
  · have HE : Hid (ahL ⟨ua, uc, uq⟩ ⟨va, vc, vq⟩ = true) := Lib.hid (by simp [ahL, ltL, h1])
    go_enter Tryz.func94, Tryz.ntmps94
    go_wp2_with fail
    go_ret
    exact ⟨retB HE.out.symm, hB⟩
  by_cases h2 : ua = va
  · subst h2
    have HE : Hid (ahL ⟨ua, uc, uq⟩ ⟨ua, vc, vq⟩ = decide (uc < vc)) := Lib.hid (by simp [ahL, ltL])
    go_enter Tryz.func94, Tryz.ntmps94
    go_wp2_with fail
    go_ret
    exact ⟨retB HE.out.symm, hB⟩
  · have HE : Hid (ahL ⟨ua, uc, uq⟩ ⟨va, vc, vq⟩ = false) := Lib.hid (decide_eq_false (by unfold ltL; simp only; omega))
    have h2b : (ua == va) = false := by simpa using h2
    clear h2
    go_enter Tryz.func94, Tryz.ntmps94
    go_wp2_with fail
    go_ret
    exact ⟨retB HE.out.symm, hB⟩
theorem rless_any (x y : Lt) (w : World) : Calls Tryz.prog 105 #[x.val, y.val] w fun e w' => e = .returned (.bool (ahL x y)) ∧ Below w.heap.size w w' := by
  have hB := since_alloc (since_alloc (Below.refl _ w) (.cells x.cells.toArray 33)) (.cells y.cells.toArray 33)
  obtain ⟨ua, uc, uq⟩ := x
  obtain ⟨va, vc, vq⟩ := y
  unfold Lt.val Lt.cells at *
  simp only at hB ⊢
  by_cases h1 : ua < va
  · have HE : Hid (ahL ⟨ua, uc, uq⟩ ⟨va, vc, vq⟩ = true) := Lib.hid (by simp [ahL, ltL, h1])
    go_enter Tryz.func105, Tryz.ntmps105
    go_wp2_with fail
    go_ret
    exact ⟨retB HE.out.symm, hB⟩
  by_cases h2 : ua = va
  · subst h2
    have HE : Hid (ahL ⟨ua, uc, uq⟩ ⟨ua, vc, vq⟩ = decide (uc < vc)) := Lib.hid (by simp [ahL, ltL])
    go_enter Tryz.func105, Tryz.ntmps105
    go_wp2_with fail
    go_ret
    exact ⟨retB HE.out.symm, hB⟩
  · have HE : Hid (ahL ⟨ua, uc, uq⟩ ⟨va, vc, vq⟩ = false) := Lib.hid (decide_eq_false (by unfold ltL; simp only; omega))
    have h2b : (ua == va) = false := by simpa using h2
    clear h2
    go_enter Tryz.func105, Tryz.ntmps105
    go_wp2_with fail
    go_ret
    exact ⟨retB HE.out.symm, hB⟩
theorem ent_lahead : Ent Tryz.prog 94 := Ent.of (by kernel_rfl)
theorem tells_lahead (B : Nat) (w : World) : Lt.Tells2 94 #[] ahL B w := fun a b W _ => lahead_any a b W
theorem isLs_bad {l : List Lt} {k : Nat} (h : k < l.length) (hb : okL l[k] = false) : isLs l = false := by
  unfold isLs
  have : l.all okL = false := by
    rw [← Bool.not_eq_true, List.all_eq_true]
    intro ha
    rw [ha _ (List.getElem_mem h)] at hb
    cases hb
  rw [this]; simp
theorem all_ok {l : List Lt} (h : ∀ j, (hj : j < l.length) → okL l[j] = true) : l.all okL = true := by
  rw [List.all_eq_true]
  intro x hx
  obtain ⟨j, hj, rfl⟩ := List.getElem_of_mem hx
  exact h j hj
theorem lis_any (A : Option Addr) (cap : Nat) (l : List Lt) (w : World) (hl : l.length ≤ 1000000) (hs : Sl w A (rc Lt.cells l)) :
    Calls Tryz.prog 53 #[.slice A l.length cap] w fun e w' => e = .returned (.bool (isLs l)) ∧ Below w.heap.size w w' := by
  go_enter Tryz.func53, Tryz.ntmps53
  go_wp2_with fail
  go_loopw [7] (fun i wr => ∃ k : Nat, k ≤ l.length ∧ i = .int .i64 k ∧ (∀ j, (hj : j < l.length) → j < k → okL l[j] = true) ∧ Below w.heap.size w wr) (fun i _ => l.length - (intOf i).toNat)
  case atStart => exact ⟨0, by omega, rfl, fun j hj h => absurd h (by omega), Below.refl _ _⟩
  case round =>
    obtain ⟨k, hk, rfl, hno, hB⟩ := hrel
    by_cases hlt : k < l.length
    · obtain ⟨b, o, rfl, hbw, hg⟩ := (hs.below hB).lt hlt
      have hlk : (k : Int) < (l.length : Int) := by omega
      have HF := Lib.hid (fun V => fit_any l[k] V)
      have hA := since_alloc hB (.cells l[k].cells.toArray 33)
      have HNX : Hid (okL l[k] = true → ∀ j, (hj : j < l.length) → j < k + 1 → okL l[j] = true) := Lib.hid (fun h j hj hjk => by
        rcases Nat.lt_or_ge j k with h' | h'
        · exact hno j hj h'
        · obtain rfl : j = k := by omega
          exact h)
      have HBD : Hid (okL l[k] = false → isLs l = false) := Lib.hid (fun h => isLs_bad hlt h)
      clear hno
      generalize l[k] = v at *
      obtain ⟨g0, g1, g2⟩ := hg
      unfold Lt.val at HF
      unfold Lt.cells at hA
      cases hq : okL v with
      | true =>
        rw [hq] at HF
        have HN := Lib.hid (HNX.out hq)
        clear HBD HNX hq
        go_wp2_with fail
        refine (HF.out _).mono ?_
        rintro e w1 ⟨rfl, hb⟩
        have hB1 := since_step hA hb
        go_wp2_with fail
        go_roundw
        case rel => exact ⟨k + 1, by omega, by go_num, HN.out, hB1⟩
        case measure => simp [intOf]; omega
      | false =>
        rw [hq] at HF
        have HE := Lib.hid (HBD.out hq)
        clear HBD HNX hq
        go_wp2_with fail
        refine (HF.out _).mono ?_
        rintro e w1 ⟨rfl, hb⟩
        have hB1 := since_step hA hb
        go_wp2_with fail
        go_ret
        exact ⟨retB HE.out.symm, hB1⟩
    · obtain rfl : k = l.length := by omega
      have ha := all_ok fun j hj => hno j hj hj
      clear hno
      by_cases h16 : l.length ≤ 16
      · have HE : Hid (isLs l = risingL ahL l) := Lib.hid (by unfold isLs; rw [ha]; simp [h16])
        have h16i : (l.length : Int) ≤ 16 := by omega
        have hs2 := hs.below hB
        clear ha
        go_wp2_with fail
        refine (rising_lt A cap l 94 #[] ahL _ hl hs2 ent_lahead (tells_lahead _ _)).mono ?_
        rintro e w1 ⟨rfl, hb⟩
        have hB1 := since_step hB hb
        go_wp2_with fail
        go_ret
        exact ⟨retB HE.out.symm, hB1⟩
      · have HE : Hid (isLs l = false) := Lib.hid (by unfold isLs; simp [h16])
        have h16i : ¬ (l.length : Int) ≤ 16 := by omega
        clear ha
        go_wp2_with fail
        go_ret
        exact ⟨retB HE.out.symm, hB⟩
theorem rlget_any (A : Option Addr) (cap : Nat) (l : List Lt) (a t : Int) (w : World) (hl : l.length ≤ 1000000) (hs : Sl w A (rc Lt.cells l)) :
    Calls Tryz.prog 71 #[.slice A l.length cap, .int .i64 a, .int .i64 t] w fun e w' => e = .returned (.int .i64 (getL l a t)) ∧ Below w.heap.size w w' := by
  go_enter Tryz.func71, Tryz.ntmps71
  go_wp2_with fail
  go_loopw [7] (fun i wr => ∃ k : Nat, k ≤ l.length ∧ i = .int .i64 k ∧ (∀ j, (hj : j < l.length) → j < k → sameL a t l[j] = false) ∧ Below w.heap.size w wr) (fun i _ => l.length - (intOf i).toNat)
  case atStart => exact ⟨0, by omega, rfl, fun j hj h => absurd h (by omega), Below.refl _ _⟩
  case round =>
    obtain ⟨k, hk, rfl, hno, hB⟩ := hrel
    by_cases hlt : k < l.length
    · obtain ⟨b, o, rfl, hbw, hg⟩ := (hs.below hB).lt hlt
      have hlk : (k : Int) < (l.length : Int) := by omega
      have HY : Hid (sameL a t l[k] = true → getL l a t = l[k].qty) := Lib.hid (fun h => by unfold getL; rw [pickL, find_some hlt (fun j hj => hno j (by omega) hj) h]; rfl)
      have HNX : Hid (sameL a t l[k] = false → ∀ j, (hj : j < l.length) → j < k + 1 → sameL a t l[j] = false) := Lib.hid (fun h j hj hjk => by
        rcases Nat.lt_or_ge j k with h' | h'
        · exact hno j hj h'
        · obtain rfl : j = k := by omega
          exact h)
      clear hno
      generalize l[k] = v at *
      obtain ⟨xa, xt, xq⟩ := v
      obtain ⟨g0, g1, g2⟩ := hg
      simp only at g0 g1 g2
      by_cases h1 : xa = a
      · by_cases h2 : xt = t
        · have HE := Lib.hid (HY.out (by simp [sameL, h1, h2]))
          have h1b : (xa == a) = true := by simpa using h1
          have h2b : (xt == t) = true := by simpa using h2
          clear HY HNX h1 h2
          go_wp2_with fail
          go_ret
          exact ⟨retI HE.out.symm, hB⟩
        · have HN := Lib.hid (HNX.out (by simp [sameL, h2]))
          have h1b : (xa == a) = true := by simpa using h1
          have h2b : (xt == t) = false := by simpa using h2
          clear HY HNX h1 h2
          go_wp2_with fail
          go_roundw
          case rel => exact ⟨k + 1, by omega, by go_num, HN.out, hB⟩
          case measure => simp [intOf]; omega
      · have HN := Lib.hid (HNX.out (by simp [sameL, h1]))
        have h1b : (xa == a) = false := by simpa using h1
        clear HY HNX h1
        go_wp2_with fail
        go_roundw
        case rel => exact ⟨k + 1, by omega, by go_num, HN.out, hB⟩
        case measure => simp [intOf]; omega
    · have HE : Hid (getL l a t = 0) := Lib.hid (by unfold getL; rw [pickL, find_none (fun j hj => hno j hj (by omega))]; rfl)
      clear hno
      go_wp2_with fail
      go_ret
      exact ⟨retI HE.out.symm, hB⟩
end
section
open Classical in
noncomputable def putLR (l : List Lt) (x : Lt) : Int × List Lt :=
  if chkL l x ≠ 0 then (chkL l x, []) else if ¬ In64 (getL l x.ast x.tag + x.qty) then (7, [])
  else if getL l x.ast x.tag = 0 ∧ l.length = 16 then (25, []) else (0, putR ahL l ⟨x.ast, x.tag, getL l x.ast x.tag + x.qty⟩)
def LRes (B : Nat) (w' : World) (e : Ending) (R : Int × List Lt) : Prop :=
  ∃ A' c', e = .returned (.tuple #[.slice A' R.2.length c', .int .i64 R.1]) ∧ w'.ownsRow B 33 3 (.slice A' R.2.length c') R.2.length (rc Lt.cells R.2)
theorem LRes.nil (B : Nat) (w' : World) (n : Int) : LRes B w' (.returned (.tuple #[.slice none 0 0, .int .i64 n])) (n, []) := ⟨none, 0, rfl, own_nil _ _ _⟩
theorem getL_in {l : List Lt} (h : ∀ y ∈ l, In64 y.qty) (a t : Int) : In64 (getL l a t) := by
  unfold getL pickL
  cases hf : l.find? (sameL a t) with
  | none => simp [Lt.zero]; decide
  | some y => exact h y (List.mem_of_find?_eq_some hf)
theorem chkL_cases (l : List Lt) (x : Lt) : chkL l x = 3 ∨ chkL l x = 2 ∨ chkL l x = 0 := by
  unfold chkL
  split
  · exact .inl rfl
  · split
    · exact .inr (.inl rfl)
    · exact .inr (.inr rfl)
theorem chkL_ok {l : List Lt} {x : Lt} (h : chkL l x = 0) : isLs l = true ∧ okL x = true := by
  unfold chkL at h
  cases h1 : isLs l <;> cases h2 : okL x <;> simp_all
theorem okL_pos {x : Lt} (h : okL x = true) : 0 < x.qty := by
  unfold okL at h; simp at h; exact h.2
theorem getL_nn {l : List Lt} (h : isLs l = true) (a t : Int) : 0 ≤ getL l a t := by
  unfold getL pickL
  cases hf : l.find? (sameL a t) with
  | none => simp [Lt.zero]
  | some y =>
    unfold isLs at h
    simp only [Bool.and_eq_true, List.all_eq_true] at h
    have := okL_pos (h.1.1 y (List.mem_of_find?_eq_some hf))
    simp only [Option.getD_some]
    omega
end
end Go.Proofs.YtmjndpkfhdoljaaGreat
