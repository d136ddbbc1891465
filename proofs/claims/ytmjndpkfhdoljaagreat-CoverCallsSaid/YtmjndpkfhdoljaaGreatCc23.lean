import Derived.Deep.DeepCutAuto
import Derived.Deep.RegionHeld3
import Derived.Test.YtmjndpkfhdoljaaGreatCc22
import Derived.Test.YtmjndpkfhdoljaaGreatCc02
import Derived.Test.YtmjndpkfhdoljaaGreatCc11
import Derived.BigQuiet
import Derived.Test.YtmjndpkfhdoljaaGreatCc10
import Derived.Test.YtmjndpkfhdoljaaGreatCc16
set_option maxHeartbeats 16000000
set_option maxRecDepth 100000
set_option linter.unusedVariables false
set_option linter.unusedSimpArgs false
namespace Go.Proofs.YtmjndpkfhdoljaaGreat
open Go.ChangeShapes Go.WideShapes Go.ChangeAt Go.RowKit
section
def Lt.Tells2 (F : Nat) (caps : Array Value) (ah : Lt → Lt → Bool) (B : Nat) (w : World) : Prop :=
  ∀ (a b : Lt) (W : World), Below B w W → Calls Tryz.prog F (#[a.val, b.val] ++ caps) W fun e w' => e = .returned (.bool (ah a b)) ∧ Below W.heap.size W w'
theorem Lt.Tells2.below {F : Nat} {caps : Array Value} {ah : Lt → Lt → Bool} {B : Nat} {w w1 : World} (h : Lt.Tells2 F caps ah B w) (hb : Below B w w1) {C : Nat} (hC : B ≤ C) : Lt.Tells2 F caps ah C w1 :=
  fun a b W hW => h a b W (hb.trans (hW.mono hC))
structure Lt.Bx (w : World) (b : Nat) (g : Lt) : Prop where
  lt : b < w.heap.size
  at_ : g.at w b 0
  hp : w.heap[b]? = some (.cells g.cells.toArray 33 (0, 0))
theorem Lt.Bx.new (w : World) (g : Lt) : Lt.Bx (w.alloc (.cells g.cells.toArray 33)) w.heap.size g := by
  have h := heap_alloc_new w (.cells g.cells.toArray 33 (0, 0))
  refine ⟨by simp, Lt.at_of fun j u hu => ?_, h⟩
  rw [Nat.zero_add, cell_of_row _ _ j g.cells.toArray 33 (0, 0) h]
  simpa using hu
theorem Lt.Bx.below {w w' : World} {b : Nat} {g : Lt} (h : Lt.Bx w b g) (hb : Below w.heap.size w w') : Lt.Bx w' b g :=
  ⟨Nat.lt_of_lt_of_le h.lt hb.size, Lt.at_keep h.at_ fun i => hb.cell (p := ⟨b, i, none⟩) h.lt, (hb.block b h.lt).trans h.hp⟩
theorem Lt.Bx.sl {w : World} {b : Nat} {g : Lt} (h : Lt.Bx w b g) : Sl w (some ⟨b, 0, none⟩) g.cells := by
  intro _
  refine ⟨b, 0, rfl, fun j u hu => ?_⟩
  rw [Nat.zero_add, cell_of_row _ _ j g.cells.toArray 33 (0, 0) h.hp]
  simpa using hu
theorem Lt.Bx.got {w : World} {b : Nat} {g : Lt} (h : Lt.Bx w b g) : w.cell? ⟨b, 0, none⟩ = some (.int .i64 g.ast) ∧ w.cell? ⟨b, 1, none⟩ = some (.int .i64 g.tag) ∧ w.cell? ⟨b, 2, none⟩ = some (.int .i64 g.qty) := by
  have := h.at_
  unfold Lt.at at this
  simpa only [Nat.zero_add] using this
theorem rising_lt (A : Option Addr) (cap : Nat) (l : List Lt) (F : Nat) (caps : Array Value) (ah : Lt → Lt → Bool) (w : World) (hl : l.length ≤ 1000000) (hs : Sl w A (rc Lt.cells l)) (hF : Ent Tryz.prog F) (hp : Lt.Tells2 F caps ah w.heap.size w) :
    Calls Tryz.prog 93 #[.slice A l.length cap, .func (.func F) #[] caps] w fun e w' => e = .returned (.bool (risingL ah l)) ∧ Below w.heap.size w w' := by
  go_enter Tryz.func93, Tryz.ntmps93
  go_wp2_with fail
  go_loopw [5] (fun i wr => ∃ k : Nat, i = .int .i64 ((k : Int) + 1) ∧ (k ≤ l.length) ∧ (∀ j, (hj : j + 1 < l.length) → j < k → ah (l[j]'(by omega)) l[j + 1] = true) ∧ Below w.heap.size w wr) (fun i _ => l.length + 1 - (intOf i).toNat)
  case atStart => exact ⟨0, by first | rfl | go_num, by omega, fun j hj h => absurd h (by omega), Below.refl _ _⟩
  case round =>
    obtain ⟨k, rfl, hk, hno, hB⟩ := hrel
    by_cases hlt2 : k + 1 < l.length
    · have hkl : k < l.length := by omega
      obtain ⟨b, o, rfl, hbw, hg⟩ := hs.lt hkl
      obtain ⟨b', o', e, hbw', hg'⟩ := hs.lt hlt2
      injection e with e
      injection e with e1 e2 e3
      subst e1; subst e2
      have hg1 : l[k].at wr b (o + k * 3) := Lt.at_keep (w := w) hg fun i => hB.cell (p := ⟨b, i, none⟩) hbw
      have hg2 : l[k + 1].at wr b (o + (k + 1) * 3) := Lt.at_keep (w := w) hg' fun i => hB.cell (p := ⟨b, i, none⟩) hbw
      have HG1 := Lib.hid hg1
      have HG2 := Lib.hid hg2
      have hbr : b < wr.heap.size := Nat.lt_of_lt_of_le hbw hB.size
      have HK : Hid (∀ V, Below wr.heap.size wr V → l[k].at V b (o + k * 3) ∧ l[k + 1].at V b (o + (k + 1) * 3)) := Lib.hid fun V hV =>
        ⟨Lt.at_keep (w := wr) HG1.out fun i => hV.cell (p := ⟨b, i, none⟩) hbr, Lt.at_keep (w := wr) HG2.out fun i => hV.cell (p := ⟨b, i, none⟩) hbr⟩
      have HP : Hid (∀ V, Below wr.heap.size wr V → _) := Lib.hid fun V hV => hp l[k] l[k + 1] V (since_step hB hV)
      obtain ⟨q, hq⟩ : ∃ q, ah l[k] l[k + 1] = q := ⟨_, rfl⟩
      have HXq : Hid (if q then (∀ j, (hj : j + 1 < l.length) → j < k + 1 → ah (l[j]'(by omega)) l[j + 1] = true) else risingL ah l = false) := Lib.hid (by
        cases q with
        | true =>
          intro j hj hjk
          rcases Nat.lt_or_ge j k with h | h
          · exact hno j hj h
          · obtain rfl : j = k := by omega
            exact hq
        | false => exact risingL_false hlt2 hq)
      have HQ := Lib.hid hq
      clear hno hp hg hg' hg1 hg2 HG1 HG2 hq
      generalize l[k] = ga at HK HP HQ
      generalize l[k + 1] = gb at HK HP HQ
      have hw0 : IntKind.i64.wrap (k : Int) = (k : Int) := by rw [IntKind.wrap_i64]; omega
      have hw2 : IntKind.i64.wrap ((k : Int) + 1 + 1) = (k : Int) + 1 + 1 := by rw [IntKind.wrap_i64]; omega
      have hn0 : (0 : Int) ≤ (k : Int) := by omega
      have hn1 : (0 : Int) ≤ (k : Int) + 1 := by omega
      have htn : ((k : Int) + 1).toNat = k + 1 := by omega
      have hlt3 : (k : Int) + 1 < (l.length : Int) := by omega
      clear hs hbw hbw'
      go_wp2_with fail
      refine wp_region_held_drew (S := (fun V => Below wr.heap.size wr V)) (by kernel_rfl) (by exact (Below.refl _ _).drew) (fun hHeld => ?_)
      refine tkI 0 12 rfl (by intro w hSw; obtain ⟨⟨g0, g1, g2⟩, h0, h1, h2⟩ := HK.out _ hSw; go_simp <;> with_reducible rfl) hHeld ?_; simp only [pqZ]
      refine tkI 1 13 rfl (by intro w hSw; obtain ⟨⟨g0, g1, g2⟩, h0, h1, h2⟩ := HK.out _ hSw; go_simp <;> with_reducible rfl) hHeld ?_; simp only [pqZ]
      refine tkI 2 14 rfl (by intro w hSw; obtain ⟨⟨g0, g1, g2⟩, h0, h1, h2⟩ := HK.out _ hSw; go_simp <;> with_reducible rfl) hHeld ?_; simp only [pqZ]
      refine tkI 3 15 rfl (by intro w hSw; obtain ⟨⟨g0, g1, g2⟩, h0, h1, h2⟩ := HK.out _ hSw; go_simp <;> with_reducible rfl) hHeld ?_; simp only [pqZ]
      refine tkI 4 16 rfl (by intro w hSw; obtain ⟨⟨g0, g1, g2⟩, h0, h1, h2⟩ := HK.out _ hSw; go_simp <;> with_reducible rfl) hHeld ?_; simp only [pqZ]
      refine tkI 5 17 rfl (by intro w hSw; obtain ⟨⟨g0, g1, g2⟩, h0, h1, h2⟩ := HK.out _ hSw; go_simp <;> with_reducible rfl) hHeld ?_; simp only [pqZ]
      refine tkI 6 18 rfl (by intro w hSw; obtain ⟨⟨g0, g1, g2⟩, h0, h1, h2⟩ := HK.out _ hSw; go_simp <;> with_reducible rfl) hHeld ?_; simp only [pqZ]
      refine tkI 7 19 rfl (by intro w hSw; obtain ⟨⟨g0, g1, g2⟩, h0, h1, h2⟩ := HK.out _ hSw; go_simp <;> with_reducible rfl) hHeld ?_; simp only [pqZ]
      refine tkI 8 20 rfl (by intro w hSw; obtain ⟨⟨g0, g1, g2⟩, h0, h1, h2⟩ := HK.out _ hSw; go_simp <;> with_reducible rfl) hHeld ?_; simp only [pqZ]
      refine tkI 9 21 rfl (by intro w hSw; obtain ⟨⟨g0, g1, g2⟩, h0, h1, h2⟩ := HK.out _ hSw; go_simp <;> with_reducible rfl) hHeld ?_; simp only [pqZ]
      refine rdZ 10 22 rfl (by kernel_rfl) (fun K hK => ?_)
      go_simp
      rw [hF, Oper.upon_enter]
      refine (HP.out _ hHeld).mono ?_
      rintro e u1 ⟨rfl, hk1⟩
      have hKeep := since_step hHeld hk1
      rw [HQ.out]
      go_wp2_with fail
      refine hK.out _ _ (by (try dsimp only); exact hKeep) (fun hHeld => ?_); clear hK K hKeep; try simp only [pqZ]
      refine tkI 11 23 rfl (by intro w hSw; obtain ⟨⟨g0, g1, g2⟩, h0, h1, h2⟩ := HK.out _ hSw; go_simp <;> with_reducible rfl) hHeld ?_; simp only [pqZ]
      refine wpAnyH_done (by kernel_rfl) ?_ _
      have hB2 := since_step hB hHeld
      cases q with
      | true =>
        go_wp2_with fail
        go_roundw
        case rel => exact ⟨k + 1, by go_num, by omega, by simpa using HXq.out, hB2⟩
        case measure => simp [intOf]; omega
      | false =>
        have hr : risingL ah l = false := by simpa using HXq.out
        have HR := Lib.hid hr
        clear hr
        go_wp2_with fail
        go_ret
        exact ⟨retB HR.out.symm, hB2⟩
    · have hrt : risingL ah l = true := (risingL_iff ah l).2 fun j hj => hno j hj (by omega)
      have HR := Lib.hid hrt
      have hge : ¬ ((k : Int) + 1 < (l.length : Int)) := by omega
      clear hno hrt
      go_wp2_with fail
      go_ret
      exact ⟨retB HR.out.symm, hB⟩
end
section
def okL (x : Lt) : Bool := decide (1 ≤ x.ast) && decide (x.ast ≤ 4) && decide (0 ≤ x.tag) && decide (x.tag ≤ 255) && decide (0 < x.qty)
def ltL (x y : Lt) : Prop := x.ast < y.ast ∨ (x.ast = y.ast ∧ x.tag < y.tag)
instance (x y : Lt) : Decidable (ltL x y) := by unfold ltL; infer_instance
def ahL (x y : Lt) : Bool := decide (ltL x y)
def isLs (l : List Lt) : Bool := l.all okL && decide (l.length ≤ 16) && risingL ahL l
theorem fit_any (x : Lt) (w : World) : Calls Tryz.prog 92 #[x.val] w fun e w' => e = .returned (.bool (okL x)) ∧ Below w.heap.size w w' := by
  have hB := since_alloc (Below.refl _ w) (.cells x.cells.toArray 33)
  have hways : (x.ast < 1) ∨ (1 ≤ x.ast ∧ 4 < x.ast) ∨ (1 ≤ x.ast ∧ x.ast ≤ 4 ∧ x.tag < 0) ∨ (1 ≤ x.ast ∧ x.ast ≤ 4 ∧ 0 ≤ x.tag ∧ 255 < x.tag) ∨ (1 ≤ x.ast ∧ x.ast ≤ 4 ∧ 0 ≤ x.tag ∧ x.tag ≤ 255 ∧ x.qty ≤ 0) ∨ (1 ≤ x.ast ∧ x.ast ≤ 4 ∧ 0 ≤ x.tag ∧ x.tag ≤ 255 ∧ 0 < x.qty) := by omega
  unfold Lt.val
  unfold Lt.cells at hB
  rcases hways with hw | hw | hw | hw | hw | hw
  · have HE : Hid (okL x = false) := Lib.hid (by simp [okL]; omega)
    have c0 : ¬ (1 ≤ x.ast) := by omega
    have c1 : ¬ (0 < x.ast) := by omega
    clear hw
    go_enter Tryz.func92, Tryz.ntmps92
    go_wp2_with fail
    go_ret
    exact ⟨retB HE.out.symm, hB⟩
  · have HE : Hid (okL x = false) := Lib.hid (by simp [okL]; omega)
    have c0 : 1 ≤ x.ast := hw.1
    have c1 : 0 < x.ast := by omega
    have c2 : ¬ x.ast ≤ 4 := by omega
    have c3 : ¬ x.ast < 5 := by omega
    clear hw
    go_enter Tryz.func92, Tryz.ntmps92
    go_wp2_with fail
    go_ret
    exact ⟨retB HE.out.symm, hB⟩
  · have HE : Hid (okL x = false) := Lib.hid (by simp [okL]; omega)
    have c0 : 1 ≤ x.ast := hw.1
    have c1 : 0 < x.ast := by omega
    have c2 : x.ast ≤ 4 := by omega
    have c3 : x.ast < 5 := by omega
    have c4 : ¬ 0 ≤ x.tag := by omega
    clear hw
    go_enter Tryz.func92, Tryz.ntmps92
    go_wp2_with fail
    go_ret
    exact ⟨retB HE.out.symm, hB⟩
  · have HE : Hid (okL x = false) := Lib.hid (by simp [okL]; omega)
    have c0 : 1 ≤ x.ast := hw.1
    have c1 : 0 < x.ast := by omega
    have c2 : x.ast ≤ 4 := by omega
    have c3 : x.ast < 5 := by omega
    have c4 : 0 ≤ x.tag := by omega
    have c5 : ¬ x.tag ≤ 255 := by omega
    have c6 : ¬ x.tag < 256 := by omega
    clear hw
    go_enter Tryz.func92, Tryz.ntmps92
    go_wp2_with fail
    go_ret
    exact ⟨retB HE.out.symm, hB⟩
  · have HE : Hid (okL x = false) := Lib.hid (by simp [okL]; omega)
    have c0 : 1 ≤ x.ast := hw.1
    have c1 : 0 < x.ast := by omega
    have c2 : x.ast ≤ 4 := by omega
    have c3 : x.ast < 5 := by omega
    have c4 : 0 ≤ x.tag := by omega
    have c5 : x.tag ≤ 255 := by omega
    have c6 : x.tag < 256 := by omega
    have c7 : ¬ 0 < x.qty := by omega
    clear hw
    go_enter Tryz.func92, Tryz.ntmps92
    go_wp2_with fail
    go_ret
    exact ⟨retB HE.out.symm, hB⟩
  · have HE : Hid (okL x = true) := Lib.hid (by simp [okL]; omega)
    have c0 : 1 ≤ x.ast := hw.1
    have c1 : 0 < x.ast := by omega
    have c2 : x.ast ≤ 4 := by omega
    have c3 : x.ast < 5 := by omega
    have c4 : 0 ≤ x.tag := by omega
    have c5 : x.tag ≤ 255 := by omega
    have c6 : x.tag < 256 := by omega
    have c7 : 0 < x.qty := by omega
    clear hw
    go_enter Tryz.func92, Tryz.ntmps92
    go_wp2_with fail
    go_ret
    exact ⟨retB HE.out.symm, hB⟩
theorem lahead_any (x y : Lt) (w : World) : Calls Tryz.prog 94 #[x.val, y.val] w fun e w' => e = .returned (.bool (ahL x y)) ∧ Below w.heap.size w w' := by
  have hB := since_alloc (since_alloc (Below.refl _ w) (.cells x.cells.toArray 33)) (.cells y.cells.toArray 33)
  obtain ⟨ua, uc, uq⟩ := x
  obtain ⟨va, vc, vq⟩ := y
  unfold Lt.val Lt.cells at *
  simp only at hB ⊢
  by_cases h1 : ua < va
  · have HE : Hid (ahL ⟨ua, uc, uq⟩ ⟨va, vc, vq⟩ = true) := Lib.hid (by simp [ahL, ltL, h1])
    go_enter Tryz.func94, Tryz.ntmps94
    go_wp2_with fail
    go_ret
    exact ⟨retB HE.out.symm, hB⟩
  by_cases h2 : ua = va
  · subst h2
    have HE : Hid (ahL ⟨ua, uc, uq⟩ ⟨ua, vc, vq⟩ = decide (uc < vc)) := Lib.hid (by simp [ahL, ltL])
    go_enter Tryz.func94, Tryz.ntmps94
    go_wp2_with fail
    go_ret
    exact ⟨retB HE.out.symm, hB⟩
  · have HE : Hid (ahL ⟨ua, uc, uq⟩ ⟨va, vc, vq⟩ = false) := Lib.hid (decide_eq_false (by unfold ltL; simp only; omega))
    have h2b : (ua == va) = false := by simpa using h2
    clear h2
    go_enter Tryz.func94, Tryz.ntmps94
    go_wp2_with fail
    go_ret
    exact ⟨retB HE.out.symm, hB⟩
theorem ent_lahead : Ent Tryz.prog 94 := Ent.of (by kernel_rfl)
theorem tells_lahead (B : Nat) (w : World) : Lt.Tells2 94 #[] ahL B w := fun a b W _ => lahead_any a b W
theorem isLs_bad {l : List Lt} {k : Nat} (h : k < l.length) (hb : okL l[k] = false) : isLs l = false := by
  unfold isLs
  have : l.all okL = false := by
    rw [← Bool.not_eq_true, List.all_eq_true]
    intro ha
    rw [ha _ (List.getElem_mem h)] at hb
    cases hb
  rw [this]; simp
theorem all_ok {l : List Lt} (h : ∀ j, (hj : j < l.length) → okL l[j] = true) : l.all okL = true := by
  rw [List.all_eq_true]
  intro x hx
  obtain ⟨j, hj, rfl⟩ := List.getElem_of_mem hx
  exact h j hj
theorem lis_any (A : Option Addr) (cap : Nat) (l : List Lt) (w : World) (hl : l.length ≤ 1000000) (hs : Sl w A (rc Lt.cells l)) :
    Calls Tryz.prog 53 #[.slice A l.length cap] w fun e w' => e = .returned (.bool (isLs l)) ∧ Below w.heap.size w w' := by
  go_enter Tryz.func53, Tryz.ntmps53
  go_wp2_with fail
  go_loopw [7] (fun i wr => ∃ k : Nat, k ≤ l.length ∧ i = .int .i64 k ∧ (∀ j, (hj : j < l.length) → j < k → okL l[j] = true) ∧ Below w.heap.size w wr) (fun i _ => l.length - (intOf i).toNat)
  case atStart => exact ⟨0, by omega, rfl, fun j hj h => absurd h (by omega), Below.refl _ _⟩
  case round =>
    obtain ⟨k, hk, rfl, hno, hB⟩ := hrel
    by_cases hlt : k < l.length
    · obtain ⟨b, o, rfl, hbw, hg⟩ := (hs.below hB).lt hlt
      have hlk : (k : Int) < (l.length : Int) := by omega
      have HF := Lib.hid (fun V => fit_any l[k] V)
      have hA := since_alloc hB (.cells l[k].cells.toArray 33)
      have HNX : Hid (okL l[k] = true → ∀ j, (hj : j < l.length) → j < k + 1 → okL l[j] = true) := Lib.hid (fun h j hj hjk => by
        rcases Nat.lt_or_ge j k with h' | h'
        · exact hno j hj h'
        · obtain rfl : j = k := by omega
          exact h)
      have HBD : Hid (okL l[k] = false → isLs l = false) := Lib.hid (fun h => isLs_bad hlt h)
      clear hno
      generalize l[k] = v at *
      obtain ⟨g0, g1, g2⟩ := hg
      unfold Lt.val at HF
      unfold Lt.cells at hA
      cases hq : okL v with
      | true =>
        rw [hq] at HF
        have HN := Lib.hid (HNX.out hq)
        clear HBD HNX hq
        go_wp2_with fail
        refine (HF.out _).mono ?_
        rintro e w1 ⟨rfl, hb⟩
        have hB1 := since_step hA hb
        go_wp2_with fail
        go_roundw
        case rel => exact ⟨k + 1, by omega, by go_num, HN.out, hB1⟩
        case measure => simp [intOf]; omega
      | false =>
        rw [hq] at HF
        have HE := Lib.hid (HBD.out hq)
        clear HBD HNX hq
        go_wp2_with fail
        refine (HF.out _).mono ?_
        rintro e w1 ⟨rfl, hb⟩
        have hB1 := since_step hA hb
        go_wp2_with fail
        go_ret
        exact ⟨retB HE.out.symm, hB1⟩
    · obtain rfl : k = l.length := by omega
      have ha := all_ok fun j hj => hno j hj hj
      clear hno
      by_cases h16 : l.length ≤ 16
      · have HE : Hid (isLs l = risingL ahL l) := Lib.hid (by unfold isLs; rw [ha]; simp [h16])
        have h16i : (l.length : Int) ≤ 16 := by omega
        have hs2 := hs.below hB
        clear ha
        go_wp2_with fail
        refine (rising_lt A cap l 94 #[] ahL _ hl hs2 ent_lahead (tells_lahead _ _)).mono ?_
        rintro e w1 ⟨rfl, hb⟩
        have hB1 := since_step hB hb
        go_wp2_with fail
        go_ret
        exact ⟨retB HE.out.symm, hB1⟩
      · have HE : Hid (isLs l = false) := Lib.hid (by unfold isLs; simp [h16])
        have h16i : ¬ (l.length : Int) ≤ 16 := by omega
        clear ha
        go_wp2_with fail
        go_ret
        exact ⟨retB HE.out.symm, hB⟩
end
section
def LRes (B : Nat) (w' : World) (e : Ending) (R : Int × List Lt) : Prop :=
  ∃ A' c', e = .returned (.tuple #[.slice A' R.2.length c', .int .i64 R.1]) ∧ w'.ownsRow B 33 3 (.slice A' R.2.length c') R.2.length (rc Lt.cells R.2)
theorem LRes.nil (B : Nat) (w' : World) (n : Int) : LRes B w' (.returned (.tuple #[.slice none 0 0, .int .i64 n])) (n, []) := ⟨none, 0, rfl, own_nil _ _ _⟩
end
section
theorem few18_any (A : Option Addr) (cap : Nat) (l : List Lt) (w : World) (hc : l.length ≤ cap) (hcm : cap ≤ maxLen) (hs : Sl w A (rc Lt.cells l)) :
    Calls Tryz.prog 44 #[.slice A l.length cap] w fun e w' => e = .returned (.slice A (l.take 20).length cap) ∧ Below w.heap.size w w' := by
  by_cases h : 20 < l.length
  · have hl : (l.take 20).length = 20 := by simp; omega
    rw [hl]
    have h40 : 20 ≤ cap := by omega
    cases A with
    | none => obtain ⟨b, o, e, _⟩ := hs.lt (k := 0) (by omega); cases e
    | some ad =>
      go_enter Tryz.func44, Tryz.ntmps44
      go_wp2
      go_ret
      exact ⟨rfl, Below.refl _ _⟩
  · have hl : (l.take 20).length = l.length := by simp; omega
    rw [hl]
    go_enter Tryz.func44, Tryz.ntmps44
    go_wp2
    go_ret
    exact ⟨rfl, Below.refl _ _⟩
end
section
structure Ast where
  (id price hc : Int)
def astV (a : Ast) : Value := .agg #[.int .i64 a.id, .int .i64 a.price, .int .i64 a.hc]
def apB (p : Int) : Bool := decide (0 ≤ p) && decide (p ≤ 2147483647)
def okA (a : Ast) : Prop := 1 ≤ a.id ∧ a.id ≤ 4 ∧ (0 ≤ a.price ∧ a.price ≤ 2147483647) ∧ 0 ≤ a.hc ∧ a.hc ≤ 10000
instance (a : Ast) : Decidable (okA a) := by unfold okA; exact inferInstance
def AB (w : World) (g : Nat) (a : Ast) : Prop := g < w.heap.size ∧ w.cell? ⟨g, 0, none⟩ = some (.int .i64 a.id) ∧ w.cell? ⟨g, 1, none⟩ = some (.int .i64 a.price) ∧ w.cell? ⟨g, 2, none⟩ = some (.int .i64 a.hc)
theorem AB.new (w : World) (a : Ast) (t : TypeId) : AB (w.alloc (.cells #[.int .i64 a.id, .int .i64 a.price, .int .i64 a.hc] t)) w.heap.size a := by
  refine ⟨?_, ?_, ?_, ?_⟩ <;> simp
theorem AB.below {w w' : World} {g : Nat} {a : Ast} (h : AB w g a) (hb : Below w.heap.size w w') : AB w' g a :=
  ⟨Nat.lt_of_lt_of_le h.1 hb.size, (hb.cell (p := ⟨g, 0, none⟩) h.1).trans h.2.1, (hb.cell (p := ⟨g, 1, none⟩) h.1).trans h.2.2.1, (hb.cell (p := ⟨g, 2, none⟩) h.1).trans h.2.2.2⟩
theorem apriced_any (p : Int) (w : World) : Calls Tryz.prog 109 #[.int .i64 p] w fun e w' => e = .returned (.bool (apB p)) ∧ w' = w := by
  unfold apB
  by_cases h : 0 ≤ p
  · by_cases h2 : p ≤ 2147483647
    · go_enter Tryz.func109, Tryz.ntmps109
      go_wp2
      go_ret
      exact ⟨by simp [h, h2], rfl⟩
    · go_enter Tryz.func109, Tryz.ntmps109
      go_wp2
      go_ret
      exact ⟨by simp [h, h2], rfl⟩
  · go_enter Tryz.func109, Tryz.ntmps109
    go_wp2
    go_ret
    exact ⟨by simp; omega, rfl⟩
theorem acheck_any (a : Ast) (w : World) :
    Calls Tryz.prog 86 #[astV a] w fun e w' => e = .returned (.int .i64 (if okA a then 0 else 2)) ∧ Below w.heap.size w w' := by
  obtain ⟨id, price, hc⟩ := a
  obtain ⟨R, hR⟩ : ∃ R : Int, R = if okA ⟨id, price, hc⟩ then 0 else 2 := ⟨_, rfl⟩
  rw [← hR]
  have hno : ¬ okA ⟨id, price, hc⟩ → R = 2 := fun h => by rw [hR, if_neg h]
  have hyes : okA ⟨id, price, hc⟩ → R = 0 := fun h => by rw [hR, if_pos h]
  have HNO := Lib.hid hno
  have HYES := Lib.hid hyes
  have HP := fun p w => apriced_any p w
  have hB0 := since_alloc (Below.refl _ w) (.cells #[.int .i64 id, .int .i64 price, .int .i64 hc] 63)
  clear hR hno hyes
  by_cases h1 : id < 1
  · have E := Lib.hid (HNO.out (fun h => by unfold okA at h; simp only at h; omega))
    have b1 : decide (id < 1) = true := decide_eq_true h1
    clear HNO HYES
    unfold astV
    go_enter Tryz.func86, Tryz.ntmps86
    go_wp2_with fail
    go_ret
    exact ⟨by rw [E.out]; rfl, hB0⟩
  · have b1 : decide (id < 1) = false := decide_eq_false h1
    by_cases h2 : 4 < id
    · have E := Lib.hid (HNO.out (fun h => by unfold okA at h; simp only at h; omega))
      have b2 : decide (4 < id) = true := decide_eq_true h2
      clear HNO HYES
      unfold astV
      go_enter Tryz.func86, Tryz.ntmps86
      go_wp2_with fail
      go_ret
      exact ⟨by rw [E.out]; rfl, hB0⟩
    · have b2 : decide (4 < id) = false := decide_eq_false h2
      by_cases h3 : apB price = true
      · have H3 := Lib.hid h3
        simp only [apB, Bool.and_eq_true, decide_eq_true_eq] at h3
        by_cases h4 : hc < 0
        · have E := Lib.hid (HNO.out (fun h => by unfold okA at h; simp only at h; omega))
          have b4 : decide (hc < 0) = true := decide_eq_true h4
          clear HNO HYES h3
          unfold astV
          go_enter Tryz.func86, Tryz.ntmps86
          go_wp2_with fail
          refine (HP _ _).mono ?_
          rintro e w1 ⟨rfl, rfl⟩
          rw [H3.out]
          go_wp2_with fail
          go_ret
          exact ⟨by rw [E.out]; rfl, hB0⟩
        · have b4 : decide (hc < 0) = false := decide_eq_false h4
          by_cases h5 : 10000 < hc
          · have E := Lib.hid (HNO.out (fun h => by unfold okA at h; simp only at h; omega))
            have b5 : decide (10000 < hc) = true := decide_eq_true h5
            clear HNO HYES h3
            unfold astV
            go_enter Tryz.func86, Tryz.ntmps86
            go_wp2_with fail
            refine (HP _ _).mono ?_
            rintro e w1 ⟨rfl, rfl⟩
            rw [H3.out]
            go_wp2_with fail
            go_ret
            exact ⟨by rw [E.out]; rfl, hB0⟩
          · have b5 : decide (10000 < hc) = false := decide_eq_false h5
            have E := Lib.hid (HYES.out (by unfold okA; simp only; omega))
            clear HNO HYES h3
            unfold astV
            go_enter Tryz.func86, Tryz.ntmps86
            go_wp2_with fail
            refine (HP _ _).mono ?_
            rintro e w1 ⟨rfl, rfl⟩
            rw [H3.out]
            go_wp2_with fail
            go_ret
            exact ⟨by rw [E.out]; rfl, hB0⟩
      · have H3 := Lib.hid (show apB price = false by simpa using h3)
        have E := Lib.hid (HNO.out (fun h => by
          unfold okA at h; simp only at h
          apply h3
          simp only [apB, Bool.and_eq_true, decide_eq_true_eq]
          exact h.2.2.1))
        clear HNO HYES h3
        unfold astV
        go_enter Tryz.func86, Tryz.ntmps86
        go_wp2_with fail
        refine (HP _ _).mono ?_
        rintro e w1 ⟨rfl, rfl⟩
        rw [H3.out]
        go_wp2_with fail
        go_ret
        exact ⟨by rw [E.out]; rfl, hB0⟩
theorem arIs_any (a : Ast) (w : World) :
    Calls Tryz.prog 82 #[astV a] w fun e w' => e = .returned (.bool (decide (okA a))) ∧ Below w.heap.size w w' := by
  obtain ⟨id, price, hc⟩ := a
  obtain ⟨R, hR⟩ : ∃ R : Bool, R = decide (okA ⟨id, price, hc⟩) := ⟨_, rfl⟩
  rw [← hR]
  have HNO := Lib.hid (fun h : ¬ okA ⟨id, price, hc⟩ => show R = false by rw [hR, decide_eq_false h])
  have HYES := Lib.hid (fun h : okA ⟨id, price, hc⟩ => show R = true by rw [hR, decide_eq_true h])
  have hB0 := since_alloc (Below.refl _ w) (.cells #[.int .i64 id, .int .i64 price, .int .i64 hc] 63)
  clear hR
  have hcase : (¬ 0 < id) ∨ (0 < id ∧ ((¬ id < 5) ∨ (id < 5 ∧ ((¬ 0 ≤ price) ∨ (0 ≤ price ∧ ((¬ price < 2147483648) ∨ (price < 2147483648 ∧ ((¬ 0 ≤ hc) ∨ (0 ≤ hc ∧ ((¬ hc < 10001) ∨ hc < 10001)))))))))) := by omega
  rcases hcase with h1 | ⟨h1, h2 | ⟨h2, h3 | ⟨h3, h4 | ⟨h4, h5 | ⟨h5, h6 | h6⟩⟩⟩⟩⟩
  all_goals
    first
      | (have E := Lib.hid (HYES.out (by unfold okA; simp only; omega)); clear HNO HYES)
      | (have E := Lib.hid (HNO.out (fun h => by unfold okA at h; simp only at h; omega)); clear HNO HYES)
    (first | have b1 : decide (0 < id) = true := decide_eq_true h1 | have b1 : decide (0 < id) = false := decide_eq_false h1)
    (first | have b2 : decide (id < 5) = true := decide_eq_true h2 | have b2 : decide (id < 5) = false := decide_eq_false h2 | skip)
    (first | have b3 : decide (0 ≤ price) = true := decide_eq_true h3 | have b3 : decide (0 ≤ price) = false := decide_eq_false h3 | skip)
    (first | have b4 : decide (price < 2147483648) = true := decide_eq_true h4 | have b4 : decide (price < 2147483648) = false := decide_eq_false h4 | skip)
    (first | have b5 : decide (0 ≤ hc) = true := decide_eq_true h5 | have b5 : decide (0 ≤ hc) = false := decide_eq_false h5 | skip)
    (first | have b6 : decide (hc < 10001) = true := decide_eq_true h6 | have b6 : decide (hc < 10001) = false := decide_eq_false h6 | skip)
    unfold astV
    go_enter Tryz.func82, Tryz.ntmps82
    go_wp2_with fail
    go_ret
    exact ⟨by rw [E.out]; rfl, hB0⟩
end
section
theorem div_in128 {z : Int} (h : In128 z) (d : Nat) (hd : 0 < d) : In128 (z / (d : Int)) := by
  unfold In128 at *
  have h1 := Int.ediv_mul_le z (show (d : Int) ≠ 0 by omega)
  have h2 := Int.lt_ediv_add_one_mul_self z (show (0 : Int) < (d : Int) by omega)
  generalize z / (d : Int) = q at *
  have hd1 : (1 : Int) ≤ (d : Int) := by omega
  constructor
  · rcases Int.lt_or_le q (-170141183460469231731687303715884105728) with h | h
    · exfalso
      have : (q + 1) * (d : Int) ≤ (q + 1) * 1 := Int.mul_le_mul_of_nonpos_left (by omega) hd1
      omega
    · exact h
  · rcases Int.lt_or_le 170141183460469231731687303715884105727 q with h | h
    · exfalso
      have : q * 1 ≤ q * (d : Int) := Int.mul_le_mul_of_nonneg_left hd1 (by omega)
      omega
    · exact h
def sV (z : Int) (d : Nat) : Int := if In64 (z / (d : Int)) then z / (d : Int) else 0
def sR (z : Int) (d : Nat) : Int := if In64 (z / (d : Int)) then z % (d : Int) else 0
def sE (z : Int) (d : Nat) : Int := if In64 (z / (d : Int)) then 0 else 7
theorem fscale_pos (a n : Int) (d : Nat) (ha : In64 a) (hn : In64 n) (hd0 : 0 < d) (hd : d < 9223372036854775808) (w : World) :
    Calls Tryz.prog 87 #[.int .i64 a, .int .i64 n, .int .i64 (d : Int)] w fun e w' =>
      e = .returned (.tuple #[.int .i64 (sV (a * n) d), .int .i64 (sR (a * n) d), .int .i64 (sE (a * n) d)]) ∧ Below w.heap.size w w' := by
  have HM := Lib.hid (fun w => wmul_any a n ha hn w)
  have hin := mul_in128 ha hn
  have hq := div_in128 hin d hd0
  clear ha hn
  generalize a * n = z at *
  have HD := Lib.hid (fun w => wdiv_pos z d hin hd0 hd w)
  have HI := fun w => int_any (z / (d : Int)) hq w
  have e1 : sV z d = fV (z / (d : Int)) := rfl
  have e2 : sE z d = fE (z / (d : Int)) := rfl
  rw [e1, e2]
  by_cases h : In64 (z / (d : Int))
  · rw [show fV (z / (d : Int)) = z / (d : Int) from if_pos h, show fE (z / (d : Int)) = 0 from if_pos h] at *
    rw [show sR z d = z % (d : Int) from if_pos h]
    generalize z / (d : Int) = q at *
    generalize z % (d : Int) = r at *
    have HI := Lib.hid HI
    clear hin hq hd0 hd h e1 e2
    go_enter Tryz.func87, Tryz.ntmps87
    go_wp2_with fail
    refine (HM.out _).mono ?_
    rintro e w1 ⟨rfl, hb1⟩
    have hB1 := since_step (Below.refl w.heap.size w) hb1
    clear hb1
    go_wp2_with fail
    refine (HD.out _).mono ?_
    rintro e w2 ⟨rfl, hb2⟩
    have hB2 := since_step hB1 hb2
    clear hb2
    go_wp2_with fail
    refine (HI.out _).mono ?_
    rintro e w3 ⟨rfl, hb3⟩
    have hB3 := since_step (since_alloc hB2 _) hb3
    clear hb3
    go_wp2_with fail
    go_ret3
    exact ⟨rfl, hB3⟩
  · rw [show fV (z / (d : Int)) = 0 from if_neg h, show fE (z / (d : Int)) = 7 from if_neg h] at *
    rw [show sR z d = 0 from if_neg h]
    generalize z / (d : Int) = q at *
    generalize z % (d : Int) = r at *
    have HI := Lib.hid HI
    clear hin hq hd0 hd h e1 e2
    go_enter Tryz.func87, Tryz.ntmps87
    go_wp2_with fail
    refine (HM.out _).mono ?_
    rintro e w1 ⟨rfl, hb1⟩
    have hB1 := since_step (Below.refl w.heap.size w) hb1
    clear hb1
    go_wp2_with fail
    refine (HD.out _).mono ?_
    rintro e w2 ⟨rfl, hb2⟩
    have hB2 := since_step hB1 hb2
    clear hb2
    go_wp2_with fail
    refine (HI.out _).mono ?_
    rintro e w3 ⟨rfl, hb3⟩
    have hB3 := since_step (since_alloc hB2 _) hb3
    clear hb3
    go_wp2_with fail
    go_ret3
    exact ⟨rfl, hB3⟩
end
end Go.Proofs.YtmjndpkfhdoljaaGreat
