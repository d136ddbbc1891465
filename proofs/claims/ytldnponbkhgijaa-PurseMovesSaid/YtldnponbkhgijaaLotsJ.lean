import Derived.Test.YtldnponbkhgijaaLtTJ
import Derived.Test.YtldnponbkhgijaaBaseJ
import Derived.Test.YtldnponbkhgijaaFixJ
section
/-
  Layer 18, first part: lots: fit, order, Is of both sides, same, Get of both sides, check (laid by gen_lots.py).
-/
namespace Go.Proofs.Ytldnponbkhgijaa
open Go.ChangeShapes Go.WideShapes Go.ChangeAt Go.RowKit
set_option linter.unusedVariables false
set_option linter.unusedSimpArgs false

def okL (x : Lt) : Bool := decide (1 ≤ x.ast) && decide (x.ast ≤ 4) && decide (0 ≤ x.tag) && decide (x.tag ≤ 255) && decide (0 < x.qty)
def ltL (x y : Lt) : Prop := x.ast < y.ast ∨ (x.ast = y.ast ∧ x.tag < y.tag)
instance (x y : Lt) : Decidable (ltL x y) := by unfold ltL; infer_instance
def ahL (x y : Lt) : Bool := decide (ltL x y)
def isLs (l : List Lt) : Bool := l.all okL && decide (l.length ≤ 16) && risingL ahL l
def sameL (a t : Int) (x : Lt) : Bool := x.ast == a && x.tag == t
def getL (l : List Lt) (a t : Int) : Int := (pickL (sameL a t) Lt.zero l).qty
def chkL (l : List Lt) (x : Lt) : Int := if isLs l = false then 3 else if okL x = false then 2 else 0

set_option maxHeartbeats 2000000 in
set_option maxRecDepth 100000 in
theorem fit_any (x : Lt) (w : World) : Calls Try.prog 171 #[x.val] w fun e w' => e = .returned (.bool (okL x)) ∧ Below w.heap.size w w' := by
  have hB := since_alloc (Below.refl _ w) (.cells x.cells.toArray 93)
  have hways : (x.ast < 1) ∨ (1 ≤ x.ast ∧ 4 < x.ast) ∨ (1 ≤ x.ast ∧ x.ast ≤ 4 ∧ x.tag < 0) ∨ (1 ≤ x.ast ∧ x.ast ≤ 4 ∧ 0 ≤ x.tag ∧ 255 < x.tag) ∨ (1 ≤ x.ast ∧ x.ast ≤ 4 ∧ 0 ≤ x.tag ∧ x.tag ≤ 255 ∧ x.qty ≤ 0) ∨ (1 ≤ x.ast ∧ x.ast ≤ 4 ∧ 0 ≤ x.tag ∧ x.tag ≤ 255 ∧ 0 < x.qty) := by omega
  unfold Lt.val
  unfold Lt.cells at hB
  rcases hways with hw | hw | hw | hw | hw | hw
  · have HE : Hid (okL x = false) := Lib.hid (by simp [okL]; omega)
    have c0 : ¬ (1 ≤ x.ast) := by omega
    have c1 : ¬ (0 < x.ast) := by omega
    clear hw
    go_enter Try.func171, Try.ntmps171
    go_wp2_with fail
    go_ret
    exact ⟨retB HE.out.symm, hB⟩
  · have HE : Hid (okL x = false) := Lib.hid (by simp [okL]; omega)
    have c0 : 1 ≤ x.ast := hw.1
    have c1 : 0 < x.ast := by omega
    have c2 : ¬ x.ast ≤ 4 := by omega
    have c3 : ¬ x.ast < 5 := by omega
    clear hw
    go_enter Try.func171, Try.ntmps171
    go_wp2_with fail
    go_ret
    exact ⟨retB HE.out.symm, hB⟩
  · have HE : Hid (okL x = false) := Lib.hid (by simp [okL]; omega)
    have c0 : 1 ≤ x.ast := hw.1
    have c1 : 0 < x.ast := by omega
    have c2 : x.ast ≤ 4 := by omega
    have c3 : x.ast < 5 := by omega
    have c4 : ¬ 0 ≤ x.tag := by omega
    clear hw
    go_enter Try.func171, Try.ntmps171
    go_wp2_with fail
    go_ret
    exact ⟨retB HE.out.symm, hB⟩
  · have HE : Hid (okL x = false) := Lib.hid (by simp [okL]; omega)
    have c0 : 1 ≤ x.ast := hw.1
    have c1 : 0 < x.ast := by omega
    have c2 : x.ast ≤ 4 := by omega
    have c3 : x.ast < 5 := by omega
    have c4 : 0 ≤ x.tag := by omega
    have c5 : ¬ x.tag ≤ 255 := by omega
    have c6 : ¬ x.tag < 256 := by omega
    clear hw
    go_enter Try.func171, Try.ntmps171
    go_wp2_with fail
    go_ret
    exact ⟨retB HE.out.symm, hB⟩
  · have HE : Hid (okL x = false) := Lib.hid (by simp [okL]; omega)
    have c0 : 1 ≤ x.ast := hw.1
    have c1 : 0 < x.ast := by omega
    have c2 : x.ast ≤ 4 := by omega
    have c3 : x.ast < 5 := by omega
    have c4 : 0 ≤ x.tag := by omega
    have c5 : x.tag ≤ 255 := by omega
    have c6 : x.tag < 256 := by omega
    have c7 : ¬ 0 < x.qty := by omega
    clear hw
    go_enter Try.func171, Try.ntmps171
    go_wp2_with fail
    go_ret
    exact ⟨retB HE.out.symm, hB⟩
  · have HE : Hid (okL x = true) := Lib.hid (by simp [okL]; omega)
    have c0 : 1 ≤ x.ast := hw.1
    have c1 : 0 < x.ast := by omega
    have c2 : x.ast ≤ 4 := by omega
    have c3 : x.ast < 5 := by omega
    have c4 : 0 ≤ x.tag := by omega
    have c5 : x.tag ≤ 255 := by omega
    have c6 : x.tag < 256 := by omega
    have c7 : 0 < x.qty := by omega
    clear hw
    go_enter Try.func171, Try.ntmps171
    go_wp2_with fail
    go_ret
    exact ⟨retB HE.out.symm, hB⟩

set_option maxHeartbeats 2000000 in
set_option maxRecDepth 100000 in
theorem one_any (x : Lt) (w : World) : Calls Try.prog 174 #[x.val] w fun e w' => e = .returned (.bool (okL x)) ∧ Below w.heap.size w w' := by
  have hB := since_alloc (Below.refl _ w) (.cells x.cells.toArray 93)
  have hways : (x.ast < 1) ∨ (1 ≤ x.ast ∧ 4 < x.ast) ∨ (1 ≤ x.ast ∧ x.ast ≤ 4 ∧ x.tag < 0) ∨ (1 ≤ x.ast ∧ x.ast ≤ 4 ∧ 0 ≤ x.tag ∧ 255 < x.tag) ∨ (1 ≤ x.ast ∧ x.ast ≤ 4 ∧ 0 ≤ x.tag ∧ x.tag ≤ 255 ∧ x.qty ≤ 0) ∨ (1 ≤ x.ast ∧ x.ast ≤ 4 ∧ 0 ≤ x.tag ∧ x.tag ≤ 255 ∧ 0 < x.qty) := by omega
  unfold Lt.val
  unfold Lt.cells at hB
  rcases hways with hw | hw | hw | hw | hw | hw
  · have HE : Hid (okL x = false) := Lib.hid (by simp [okL]; omega)
    have c0 : ¬ (1 ≤ x.ast) := by omega
    have c1 : ¬ (0 < x.ast) := by omega
    clear hw
    go_enter Try.func174, Try.ntmps174
    go_wp2_with fail
    go_ret
    exact ⟨retB HE.out.symm, hB⟩
  · have HE : Hid (okL x = false) := Lib.hid (by simp [okL]; omega)
    have c0 : 1 ≤ x.ast := hw.1
    have c1 : 0 < x.ast := by omega
    have c2 : ¬ x.ast ≤ 4 := by omega
    have c3 : ¬ x.ast < 5 := by omega
    clear hw
    go_enter Try.func174, Try.ntmps174
    go_wp2_with fail
    go_ret
    exact ⟨retB HE.out.symm, hB⟩
  · have HE : Hid (okL x = false) := Lib.hid (by simp [okL]; omega)
    have c0 : 1 ≤ x.ast := hw.1
    have c1 : 0 < x.ast := by omega
    have c2 : x.ast ≤ 4 := by omega
    have c3 : x.ast < 5 := by omega
    have c4 : ¬ 0 ≤ x.tag := by omega
    clear hw
    go_enter Try.func174, Try.ntmps174
    go_wp2_with fail
    go_ret
    exact ⟨retB HE.out.symm, hB⟩
  · have HE : Hid (okL x = false) := Lib.hid (by simp [okL]; omega)
    have c0 : 1 ≤ x.ast := hw.1
    have c1 : 0 < x.ast := by omega
    have c2 : x.ast ≤ 4 := by omega
    have c3 : x.ast < 5 := by omega
    have c4 : 0 ≤ x.tag := by omega
    have c5 : ¬ x.tag ≤ 255 := by omega
    have c6 : ¬ x.tag < 256 := by omega
    clear hw
    go_enter Try.func174, Try.ntmps174
    go_wp2_with fail
    go_ret
    exact ⟨retB HE.out.symm, hB⟩
  · have HE : Hid (okL x = false) := Lib.hid (by simp [okL]; omega)
    have c0 : 1 ≤ x.ast := hw.1
    have c1 : 0 < x.ast := by omega
    have c2 : x.ast ≤ 4 := by omega
    have c3 : x.ast < 5 := by omega
    have c4 : 0 ≤ x.tag := by omega
    have c5 : x.tag ≤ 255 := by omega
    have c6 : x.tag < 256 := by omega
    have c7 : ¬ 0 < x.qty := by omega
    clear hw
    go_enter Try.func174, Try.ntmps174
    go_wp2_with fail
    go_ret
    exact ⟨retB HE.out.symm, hB⟩
  · have HE : Hid (okL x = true) := Lib.hid (by simp [okL]; omega)
    have c0 : 1 ≤ x.ast := hw.1
    have c1 : 0 < x.ast := by omega
    have c2 : x.ast ≤ 4 := by omega
    have c3 : x.ast < 5 := by omega
    have c4 : 0 ≤ x.tag := by omega
    have c5 : x.tag ≤ 255 := by omega
    have c6 : x.tag < 256 := by omega
    have c7 : 0 < x.qty := by omega
    clear hw
    go_enter Try.func174, Try.ntmps174
    go_wp2_with fail
    go_ret
    exact ⟨retB HE.out.symm, hB⟩

set_option maxHeartbeats 1000000 in
set_option maxRecDepth 100000 in
theorem lahead_any (x y : Lt) (w : World) : Calls Try.prog 173 #[x.val, y.val] w fun e w' => e = .returned (.bool (ahL x y)) ∧ Below w.heap.size w w' := by
  have hB := since_alloc (since_alloc (Below.refl _ w) (.cells x.cells.toArray 93)) (.cells y.cells.toArray 93)
  obtain ⟨ua, uc, uq⟩ := x
  obtain ⟨va, vc, vq⟩ := y
  unfold Lt.val Lt.cells at *
  simp only at hB ⊢
  by_cases h1 : ua < va
  · have HE : Hid (ahL ⟨ua, uc, uq⟩ ⟨va, vc, vq⟩ = true) := Lib.hid (by simp [ahL, ltL, h1])
    go_enter Try.func173, Try.ntmps173
    go_wp2_with fail
    go_ret
    exact ⟨retB HE.out.symm, hB⟩
  by_cases h2 : ua = va
  · subst h2
    have HE : Hid (ahL ⟨ua, uc, uq⟩ ⟨ua, vc, vq⟩ = decide (uc < vc)) := Lib.hid (by simp [ahL, ltL])
    go_enter Try.func173, Try.ntmps173
    go_wp2_with fail
    go_ret
    exact ⟨retB HE.out.symm, hB⟩
  · have HE : Hid (ahL ⟨ua, uc, uq⟩ ⟨va, vc, vq⟩ = false) := Lib.hid (decide_eq_false (by unfold ltL; simp only; omega))
    have h2b : (ua == va) = false := by simpa using h2
    clear h2
    go_enter Try.func173, Try.ntmps173
    go_wp2_with fail
    go_ret
    exact ⟨retB HE.out.symm, hB⟩

set_option maxHeartbeats 1000000 in
set_option maxRecDepth 100000 in
theorem rless_any (x y : Lt) (w : World) : Calls Try.prog 175 #[x.val, y.val] w fun e w' => e = .returned (.bool (ahL x y)) ∧ Below w.heap.size w w' := by
  have hB := since_alloc (since_alloc (Below.refl _ w) (.cells x.cells.toArray 93)) (.cells y.cells.toArray 93)
  obtain ⟨ua, uc, uq⟩ := x
  obtain ⟨va, vc, vq⟩ := y
  unfold Lt.val Lt.cells at *
  simp only at hB ⊢
  by_cases h1 : ua < va
  · have HE : Hid (ahL ⟨ua, uc, uq⟩ ⟨va, vc, vq⟩ = true) := Lib.hid (by simp [ahL, ltL, h1])
    go_enter Try.func175, Try.ntmps175
    go_wp2_with fail
    go_ret
    exact ⟨retB HE.out.symm, hB⟩
  by_cases h2 : ua = va
  · subst h2
    have HE : Hid (ahL ⟨ua, uc, uq⟩ ⟨ua, vc, vq⟩ = decide (uc < vc)) := Lib.hid (by simp [ahL, ltL])
    go_enter Try.func175, Try.ntmps175
    go_wp2_with fail
    go_ret
    exact ⟨retB HE.out.symm, hB⟩
  · have HE : Hid (ahL ⟨ua, uc, uq⟩ ⟨va, vc, vq⟩ = false) := Lib.hid (decide_eq_false (by unfold ltL; simp only; omega))
    have h2b : (ua == va) = false := by simpa using h2
    clear h2
    go_enter Try.func175, Try.ntmps175
    go_wp2_with fail
    go_ret
    exact ⟨retB HE.out.symm, hB⟩

theorem ent_lahead : Ent Try.prog 173 := Ent.of (by kernel_rfl)
theorem tells_lahead (B : Nat) (w : World) : Lt.Tells2 173 #[] ahL B w := fun a b W _ => lahead_any a b W

theorem isLs_bad {l : List Lt} {k : Nat} (h : k < l.length) (hb : okL l[k] = false) : isLs l = false := by
  unfold isLs
  have : l.all okL = false := by
    rw [← Bool.not_eq_true, List.all_eq_true]
    intro ha
    rw [ha _ (List.getElem_mem h)] at hb
    cases hb
  rw [this]; simp
theorem all_ok {l : List Lt} (h : ∀ j, (hj : j < l.length) → okL l[j] = true) : l.all okL = true := by
  rw [List.all_eq_true]
  intro x hx
  obtain ⟨j, hj, rfl⟩ := List.getElem_of_mem hx
  exact h j hj
set_option maxHeartbeats 4000000 in
set_option maxRecDepth 100000 in
theorem lis_any (A : Option Addr) (cap : Nat) (l : List Lt) (w : World) (hl : l.length ≤ 1000000) (hs : Sl w A (rc Lt.cells l)) :
    Calls Try.prog 121 #[.slice A l.length cap] w fun e w' => e = .returned (.bool (isLs l)) ∧ Below w.heap.size w w' := by
  go_enter Try.func121, Try.ntmps121
  go_wp2_with fail
  go_loopw [7] (fun i wr => ∃ k : Nat, k ≤ l.length ∧ i = .int .i64 k ∧ (∀ j, (hj : j < l.length) → j < k → okL l[j] = true) ∧ Below w.heap.size w wr) (fun i _ => l.length - (intOf i).toNat)
  case atStart => exact ⟨0, by omega, rfl, fun j hj h => absurd h (by omega), Below.refl _ _⟩
  case round =>
    obtain ⟨k, hk, rfl, hno, hB⟩ := hrel
    by_cases hlt : k < l.length
    · obtain ⟨b, o, rfl, hbw, hg⟩ := (hs.below hB).lt hlt
      have hlk : (k : Int) < (l.length : Int) := by omega
      have HF := Lib.hid (fun V => fit_any l[k] V)
      have hA := since_alloc hB (.cells l[k].cells.toArray 93)
      have HNX : Hid (okL l[k] = true → ∀ j, (hj : j < l.length) → j < k + 1 → okL l[j] = true) := Lib.hid (fun h j hj hjk => by
        rcases Nat.lt_or_ge j k with h' | h'
        · exact hno j hj h'
        · obtain rfl : j = k := by omega
          exact h)
      have HBD : Hid (okL l[k] = false → isLs l = false) := Lib.hid (fun h => isLs_bad hlt h)
      clear hno
      generalize l[k] = v at *
      obtain ⟨g0, g1, g2⟩ := hg
      unfold Lt.val at HF
      unfold Lt.cells at hA
      cases hq : okL v with
      | true =>
        rw [hq] at HF
        have HN := Lib.hid (HNX.out hq)
        clear HBD HNX hq
        go_wp2_with fail
        refine (HF.out _).mono ?_
        rintro e w1 ⟨rfl, hb⟩
        have hB1 := since_step hA hb
        go_wp2_with fail
        go_roundw
        case rel => exact ⟨k + 1, by omega, by go_num, HN.out, hB1⟩
        case measure => simp [intOf]; omega
      | false =>
        rw [hq] at HF
        have HE := Lib.hid (HBD.out hq)
        clear HBD HNX hq
        go_wp2_with fail
        refine (HF.out _).mono ?_
        rintro e w1 ⟨rfl, hb⟩
        have hB1 := since_step hA hb
        go_wp2_with fail
        go_ret
        exact ⟨retB HE.out.symm, hB1⟩
    · obtain rfl : k = l.length := by omega
      have ha := all_ok fun j hj => hno j hj hj
      clear hno
      by_cases h16 : l.length ≤ 16
      · have HE : Hid (isLs l = risingL ahL l) := Lib.hid (by unfold isLs; rw [ha]; simp [h16])
        have h16i : (l.length : Int) ≤ 16 := by omega
        have hs2 := hs.below hB
        clear ha
        go_wp2_with fail
        refine (rising_lt A cap l 173 #[] ahL _ hl hs2 ent_lahead (tells_lahead _ _)).mono ?_
        rintro e w1 ⟨rfl, hb⟩
        have hB1 := since_step hB hb
        go_wp2_with fail
        go_ret
        exact ⟨retB HE.out.symm, hB1⟩
      · have HE : Hid (isLs l = false) := Lib.hid (by unfold isLs; simp [h16])
        have h16i : ¬ (l.length : Int) ≤ 16 := by omega
        clear ha
        go_wp2_with fail
        go_ret
        exact ⟨retB HE.out.symm, hB⟩

set_option maxHeartbeats 1000000 in
set_option maxRecDepth 100000 in
theorem same1_any (x z : Lt) (b : Nat) (w : World) (hb : Lt.Bx w b z) :
    Calls Try.prog 211 #[x.val, .pointer (some ⟨b, 0, none⟩)] w fun e w' => e = .returned (.bool (sameL z.ast z.tag x)) ∧ Below w.heap.size w w' := by
  have hB := since_alloc (Below.refl _ w) (.cells x.cells.toArray 93)
  obtain ⟨z0, z1, z2⟩ := hb.got
  have hlt := hb.lt
  obtain ⟨xa, xt, xq⟩ := x
  unfold Lt.val Lt.cells at *
  simp only at hB ⊢
  by_cases h1 : xa = z.ast
  · subst h1
    have HE : Hid (sameL z.ast z.tag ⟨z.ast, xt, xq⟩ = (xt == z.tag)) := Lib.hid (by simp [sameL])
    go_enter Try.func211, Try.ntmps211
    go_wp2_with fail
    go_ret
    exact ⟨retB HE.out.symm, hB⟩
  · have HE : Hid (sameL z.ast z.tag ⟨xa, xt, xq⟩ = false) := Lib.hid (by simp [sameL, h1])
    have h1b : (xa == z.ast) = false := by simpa using h1
    clear h1
    go_enter Try.func211, Try.ntmps211
    go_wp2_with fail
    go_ret
    exact ⟨retB HE.out.symm, hB⟩
theorem ent_same1 : Ent Try.prog 211 := Ent.of (by kernel_rfl)
theorem tells_same1 (z : Lt) (b : Nat) (w : World) (h : Lt.Bx w b z) : Lt.Tells 211 #[.pointer (some ⟨b, 0, none⟩)] (sameL z.ast z.tag) w.heap.size w :=
  fun x W hW => same1_any x z b W (h.below hW)
set_option maxHeartbeats 1000000 in
set_option maxRecDepth 100000 in
theorem lsame_any (z : Lt) (w : World) :
    Calls Try.prog 184 #[z.val] w fun e w' => (∃ b, e = .returned (.func (.func 211) #[] #[.pointer (some ⟨b, 0, none⟩)]) ∧ Lt.Bx w' b z) ∧ Below w.heap.size w w' := by
  have hB := since_alloc (Below.refl _ w) (.cells z.cells.toArray 93)
  have hV := Lt.Bx.new w z
  unfold Lt.val
  go_enter Try.func184, Try.ntmps184
  go_wp2_with fail
  go_ret
  exact ⟨⟨_, rfl, hV⟩, hB⟩
set_option maxHeartbeats 1000000 in
set_option maxRecDepth 100000 in
theorem lget_any (A : Option Addr) (cap : Nat) (l : List Lt) (a t : Int) (w : World) (hl : l.length ≤ 1000000) (hs : Sl w A (rc Lt.cells l)) :
    Calls Try.prog 179 #[.slice A l.length cap, .int .i64 a, .int .i64 t] w fun e w' => e = .returned (.int .i64 (getL l a t)) ∧ Below w.heap.size w w' := by
  have HS := lsame_any ⟨a, t, 0⟩ w
  unfold Lt.val at HS
  simp only at HS
  go_enter Try.func179, Try.ntmps179
  go_wp2_with fail
  refine HS.mono ?_
  rintro e w1 ⟨⟨b, rfl, hz⟩, hb1⟩
  have hs1 := hs.below hb1
  clear hs
  go_wp2_with fail
  refine (find_lt A cap l 211 #[.pointer (some ⟨b, 0, none⟩)] (sameL a t) _ hl hs1 ent_same1 (tells_same1 ⟨a, t, 0⟩ b _ hz)).mono ?_
  rintro e w2 ⟨rfl, hb2⟩
  have e1 : (pickL (sameL a t) Lt.zero l).qty = getL l a t := rfl
  have HE := Lib.hid e1
  generalize pickL (sameL a t) Lt.zero l = g at *
  clear e1
  have hB2 := since_alloc (since_step hb1 hb2) (.cells #[.int .i64 g.ast, .int .i64 g.tag, .int .i64 g.qty] 93)
  unfold Lt.val
  go_wp2_with fail
  go_ret
  exact ⟨retI HE.out, hB2⟩

set_option maxHeartbeats 2000000 in
set_option maxRecDepth 100000 in
theorem rlget_any (A : Option Addr) (cap : Nat) (l : List Lt) (a t : Int) (w : World) (hl : l.length ≤ 1000000) (hs : Sl w A (rc Lt.cells l)) :
    Calls Try.prog 181 #[.slice A l.length cap, .int .i64 a, .int .i64 t] w fun e w' => e = .returned (.int .i64 (getL l a t)) ∧ Below w.heap.size w w' := by
  go_enter Try.func181, Try.ntmps181
  go_wp2_with fail
  go_loopw [7] (fun i wr => ∃ k : Nat, k ≤ l.length ∧ i = .int .i64 k ∧ (∀ j, (hj : j < l.length) → j < k → sameL a t l[j] = false) ∧ Below w.heap.size w wr) (fun i _ => l.length - (intOf i).toNat)
  case atStart => exact ⟨0, by omega, rfl, fun j hj h => absurd h (by omega), Below.refl _ _⟩
  case round =>
    obtain ⟨k, hk, rfl, hno, hB⟩ := hrel
    by_cases hlt : k < l.length
    · obtain ⟨b, o, rfl, hbw, hg⟩ := (hs.below hB).lt hlt
      have hlk : (k : Int) < (l.length : Int) := by omega
      have HY : Hid (sameL a t l[k] = true → getL l a t = l[k].qty) := Lib.hid (fun h => by unfold getL; rw [pickL, find_some hlt (fun j hj => hno j (by omega) hj) h]; rfl)
      have HNX : Hid (sameL a t l[k] = false → ∀ j, (hj : j < l.length) → j < k + 1 → sameL a t l[j] = false) := Lib.hid (fun h j hj hjk => by
        rcases Nat.lt_or_ge j k with h' | h'
        · exact hno j hj h'
        · obtain rfl : j = k := by omega
          exact h)
      clear hno
      generalize l[k] = v at *
      obtain ⟨xa, xt, xq⟩ := v
      obtain ⟨g0, g1, g2⟩ := hg
      simp only at g0 g1 g2
      by_cases h1 : xa = a
      · by_cases h2 : xt = t
        · have HE := Lib.hid (HY.out (by simp [sameL, h1, h2]))
          have h1b : (xa == a) = true := by simpa using h1
          have h2b : (xt == t) = true := by simpa using h2
          clear HY HNX h1 h2
          go_wp2_with fail
          go_ret
          exact ⟨retI HE.out.symm, hB⟩
        · have HN := Lib.hid (HNX.out (by simp [sameL, h2]))
          have h1b : (xa == a) = true := by simpa using h1
          have h2b : (xt == t) = false := by simpa using h2
          clear HY HNX h1 h2
          go_wp2_with fail
          go_roundw
          case rel => exact ⟨k + 1, by omega, by go_num, HN.out, hB⟩
          case measure => simp [intOf]; omega
      · have HN := Lib.hid (HNX.out (by simp [sameL, h1]))
        have h1b : (xa == a) = false := by simpa using h1
        clear HY HNX h1
        go_wp2_with fail
        go_roundw
        case rel => exact ⟨k + 1, by omega, by go_num, HN.out, hB⟩
        case measure => simp [intOf]; omega
    · have HE : Hid (getL l a t = 0) := Lib.hid (by unfold getL; rw [pickL, find_none (fun j hj => hno j hj (by omega))]; rfl)
      clear hno
      go_wp2_with fail
      go_ret
      exact ⟨retI HE.out.symm, hB⟩

set_option maxHeartbeats 1000000 in
set_option maxRecDepth 100000 in
theorem lcheck_any (A : Option Addr) (cap : Nat) (l : List Lt) (x : Lt) (w : World) (hl : l.length ≤ 1000000) (hs : Sl w A (rc Lt.cells l)) :
    Calls Try.prog 178 #[.slice A l.length cap, x.val] w fun e w' => e = .returned (.int .i64 (chkL l x)) ∧ Below w.heap.size w w' := by
  have hB0 := since_alloc (Below.refl _ w) (.cells x.cells.toArray 93)
  have hV0 := Lt.Bx.new w x
  have HI := lis_any A cap l _ hl (hs.alloc (.cells x.cells.toArray 93))
  have HF := Lib.hid (fun V => fit_any x V)
  unfold Lt.val at *
  unfold Lt.cells at hB0 hV0 HI
  cases hi : isLs l with
  | false =>
    have HE : Hid (chkL l x = 3) := Lib.hid (by rw [chkL, if_pos hi])
    rw [hi] at HI
    have HI := Lib.hid HI
    clear hi
    go_enter Try.func178, Try.ntmps178
    go_wp2_with fail
    refine HI.out.mono ?_
    rintro e w1 ⟨rfl, hb⟩
    have hB1 := since_step hB0 hb
    go_wp2_with fail
    go_ret
    exact ⟨retI HE.out.symm, hB1⟩
  | true =>
    rw [hi] at HI
    have HI := Lib.hid HI
    have HE : Hid (chkL l x = if okL x = false then 2 else 0) := Lib.hid (by rw [chkL, if_neg (by rw [hi]; decide)])
    clear hi
    cases ho : okL x
    all_goals
      rw [ho] at HF HE
      clear ho
      go_enter Try.func178, Try.ntmps178
      go_wp2_with fail
      refine HI.out.mono ?_
      rintro e w1 ⟨rfl, hb⟩
      have hB1 := since_step hB0 hb
      obtain ⟨q0, q1, q2⟩ := (hV0.below hb).got
      go_wp2_with fail
      refine (HF.out _).mono ?_
      rintro e w2 ⟨rfl, hb2⟩
      have hB2 := since_step hB1 hb2
      go_wp2_with fail
      go_ret
      exact ⟨retI HE.out.symm, hB2⟩
end Go.Proofs.Ytldnponbkhgijaa
end
section
/-
  Layer 18, second part: Put and Take of the program (laid by gen_lots2.py).
-/
namespace Go.Proofs.Ytldnponbkhgijaa
open Go.ChangeShapes Go.WideShapes Go.ChangeAt Go.RowKit
set_option linter.unusedVariables false
set_option linter.unusedSimpArgs false

open Classical in
noncomputable def putLR (l : List Lt) (x : Lt) : Int × List Lt :=
  if chkL l x ≠ 0 then (chkL l x, []) else if ¬ In64 (getL l x.ast x.tag + x.qty) then (7, [])
  else if getL l x.ast x.tag = 0 ∧ l.length = 16 then (25, []) else (0, putR ahL l ⟨x.ast, x.tag, getL l x.ast x.tag + x.qty⟩)
def takeLR (l : List Lt) (x : Lt) : Int × List Lt :=
  if chkL l x ≠ 0 then (chkL l x, []) else if getL l x.ast x.tag < x.qty then (23, [])
  else if getL l x.ast x.tag = x.qty then (0, l.filter fun y => !sameL x.ast x.tag y) else (0, putR ahL l ⟨x.ast, x.tag, getL l x.ast x.tag - x.qty⟩)
/-- a row, and an error's number -/
def LRes (B : Nat) (w' : World) (e : Ending) (R : Int × List Lt) : Prop :=
  ∃ A' c', e = .returned (.tuple #[.slice A' R.2.length c', .int .i64 R.1]) ∧ w'.ownsRow B 93 3 (.slice A' R.2.length c') R.2.length (rc Lt.cells R.2)
theorem LRes.nil (B : Nat) (w' : World) (n : Int) : LRes B w' (.returned (.tuple #[.slice none 0 0, .int .i64 n])) (n, []) := ⟨none, 0, rfl, own_nil _ _ _⟩
theorem getL_in {l : List Lt} (h : ∀ y ∈ l, In64 y.qty) (a t : Int) : In64 (getL l a t) := by
  unfold getL pickL
  cases hf : l.find? (sameL a t) with
  | none => simp [Lt.zero]; decide
  | some y => exact h y (List.mem_of_find?_eq_some hf)
theorem chkL_cases (l : List Lt) (x : Lt) : chkL l x = 3 ∨ chkL l x = 2 ∨ chkL l x = 0 := by
  unfold chkL
  split
  · exact .inl rfl
  · split
    · exact .inr (.inl rfl)
    · exact .inr (.inr rfl)
theorem chkL_ok {l : List Lt} {x : Lt} (h : chkL l x = 0) : isLs l = true ∧ okL x = true := by
  unfold chkL at h
  cases h1 : isLs l <;> cases h2 : okL x <;> simp_all
theorem okL_pos {x : Lt} (h : okL x = true) : 0 < x.qty := by
  unfold okL at h; simp at h; exact h.2
theorem getL_nn {l : List Lt} (h : isLs l = true) (a t : Int) : 0 ≤ getL l a t := by
  unfold getL pickL
  cases hf : l.find? (sameL a t) with
  | none => simp [Lt.zero]
  | some y =>
    unfold isLs at h
    simp only [Bool.and_eq_true, List.all_eq_true] at h
    have := okL_pos (h.1.1 y (List.mem_of_find?_eq_some hf))
    simp only [Option.getD_some]
    omega

set_option maxHeartbeats 8000000 in
set_option maxRecDepth 100000 in
theorem lput_any (A : Option Addr) (cap : Nat) (l : List Lt) (x : Lt) (w : World) (hl : l.length ≤ 900000) (hx : In64 x.qty) (hq : ∀ y ∈ l, In64 y.qty) (hs : Sl w A (rc Lt.cells l)) :
    Calls Try.prog 130 #[.slice A l.length cap, x.val] w fun e w' => LRes w.heap.size w' e (putLR l x) ∧ Below w.heap.size w w' := by
  have hh64 := getL_in hq x.ast x.tag
  have hB0 := since_alloc (Below.refl _ w) (.cells x.cells.toArray 93)
  have hV0 := Lt.Bx.new w x
  have HS : Hid (∀ V, Below w.heap.size w V → Sl V A (rc Lt.cells l)) := Lib.hid fun V h => hs.below h
  have HCK := Lib.hid (fun V h => lcheck_any A cap l x V (by omega) h)
  have HG := Lib.hid (fun V h => lget_any A cap l x.ast x.tag V (by omega) h)
  have HP := Lib.hid (fun V a t q h => put_lt A cap l ⟨a, t, q⟩ 173 #[] ahL V (by omega) h ent_lahead (tells_lahead _ _))
  clear hs
  rcases chkL_cases l x with hc | hc | hc
  · have HR : Hid (putLR l x = (3, [])) := Lib.hid (by rw [putLR, if_pos (by rw [hc]; decide), hc])
    have HC := Lib.hid hc
    clear hc hh64 hx hq
    obtain ⟨xa, xt, xq⟩ := x
    unfold Lt.val at *
    unfold Lt.cells at hB0 hV0
    simp only at *
    go_enter Try.func130, Try.ntmps130
    go_upto_region 1 with fail
    have fz0 : (w.alloc (.cells #[.int .i64 xa, .int .i64 xt, .int .i64 xq] 93)).frozen? ⟨w.heap.size, 2, none⟩ = false := by simp
    generalize hWW : w.alloc (.cells #[.int .i64 xa, .int .i64 xt, .int .i64 xq] 93) = w0 at *
    clear hWW
    obtain ⟨q0, q1, q2⟩ := hV0.got
    simp only at q0 q1 q2
    have lq := hV0.lt
    go_wp2_with fail
    refine (HCK.out _ (HS.out _ hB0)).mono ?_
    rw [HC.out]
    rintro e w1 ⟨rfl, hb⟩
    have hB1 := since_step hB0 hb
    have hV1 := hV0.below hb
    have fz1 := (hb.frozen (p := ⟨w.heap.size, 2, none⟩) lq).trans fz0
    clear hb q0 q1 q2 lq hV0 fz0
    obtain ⟨q0, q1, q2⟩ := hV1.got
    simp only at q0 q1 q2
    have lq := hV1.lt
    go_wp2_with fail
    go_ret2
    rw [HR.out]
    exact ⟨LRes.nil _ _ _, hB1⟩
  · have HR : Hid (putLR l x = (2, [])) := Lib.hid (by rw [putLR, if_pos (by rw [hc]; decide), hc])
    have HC := Lib.hid hc
    clear hc hh64 hx hq
    obtain ⟨xa, xt, xq⟩ := x
    unfold Lt.val at *
    unfold Lt.cells at hB0 hV0
    simp only at *
    go_enter Try.func130, Try.ntmps130
    go_upto_region 1 with fail
    have fz0 : (w.alloc (.cells #[.int .i64 xa, .int .i64 xt, .int .i64 xq] 93)).frozen? ⟨w.heap.size, 2, none⟩ = false := by simp
    generalize hWW : w.alloc (.cells #[.int .i64 xa, .int .i64 xt, .int .i64 xq] 93) = w0 at *
    clear hWW
    obtain ⟨q0, q1, q2⟩ := hV0.got
    simp only at q0 q1 q2
    have lq := hV0.lt
    go_wp2_with fail
    refine (HCK.out _ (HS.out _ hB0)).mono ?_
    rw [HC.out]
    rintro e w1 ⟨rfl, hb⟩
    have hB1 := since_step hB0 hb
    have hV1 := hV0.below hb
    have fz1 := (hb.frozen (p := ⟨w.heap.size, 2, none⟩) lq).trans fz0
    clear hb q0 q1 q2 lq hV0 fz0
    obtain ⟨q0, q1, q2⟩ := hV1.got
    simp only at q0 q1 q2
    have lq := hV1.lt
    go_wp2_with fail
    go_ret2
    rw [HR.out]
    exact ⟨LRes.nil _ _ _, hB1⟩
  have hways : (¬ In64 (getL l x.ast x.tag + x.qty)) ∨ (In64 (getL l x.ast x.tag + x.qty) ∧ getL l x.ast x.tag = 0 ∧ l.length = 16) ∨ (In64 (getL l x.ast x.tag + x.qty) ∧ getL l x.ast x.tag = 0 ∧ l.length ≠ 16) ∨ (In64 (getL l x.ast x.tag + x.qty) ∧ getL l x.ast x.tag ≠ 0) := by
    by_cases h1 : In64 (getL l x.ast x.tag + x.qty)
    · by_cases h2 : getL l x.ast x.tag = 0
      · by_cases h3 : l.length = 16
        · exact .inr (.inl ⟨h1, h2, h3⟩)
        · exact .inr (.inr (.inl ⟨h1, h2, h3⟩))
      · exact .inr (.inr (.inr ⟨h1, h2⟩))
    · exact .inl h1
  rcases hways with h1 | h1 | h1 | h1
  · have HR : Hid (putLR l x = (7, [])) := Lib.hid (by rw [putLR, if_neg (by rw [hc]; decide), if_pos h1])
    have HC := Lib.hid hc
    have hsum : [getL l x.ast x.tag, x.qty].sum = getL l x.ast x.tag + x.qty := by simp
    have hal : All64 [getL l x.ast x.tag, x.qty] := by intro y hy; simp at hy; rcases hy with rfl | rfl <;> assumption
    have HF1 : Hid (fV (getL l x.ast x.tag + x.qty) = 0) := Lib.hid (if_neg h1)
    have HF2 : Hid (fE (getL l x.ast x.tag + x.qty) = 7) := Lib.hid (if_neg h1)
    clear h1 hc hq
    obtain ⟨hs0, hgg⟩ : ∃ v, getL l x.ast x.tag = v := ⟨_, rfl⟩
    rw [hgg] at hh64 HF1 HF2 hsum hal
    have HH := Lib.hid hgg
    clear hgg
    obtain ⟨xa, xt, xq⟩ := x
    unfold Lt.val at *
    unfold Lt.cells at hB0 hV0
    simp only at *
    go_enter Try.func130, Try.ntmps130
    go_upto_region 1 with fail
    have fz0 : (w.alloc (.cells #[.int .i64 xa, .int .i64 xt, .int .i64 xq] 93)).frozen? ⟨w.heap.size, 2, none⟩ = false := by simp
    generalize hWW : w.alloc (.cells #[.int .i64 xa, .int .i64 xt, .int .i64 xq] 93) = w0 at *
    clear hWW
    obtain ⟨q0, q1, q2⟩ := hV0.got
    simp only at q0 q1 q2
    have lq := hV0.lt
    go_wp2_with fail
    refine (HCK.out _ (HS.out _ hB0)).mono ?_
    rw [HC.out]
    rintro e w1 ⟨rfl, hb⟩
    have hB1 := since_step hB0 hb
    have hV1 := hV0.below hb
    have fz1 := (hb.frozen (p := ⟨w.heap.size, 2, none⟩) lq).trans fz0
    clear hb q0 q1 q2 lq hV0 fz0
    obtain ⟨q0, q1, q2⟩ := hV1.got
    simp only at q0 q1 q2
    have lq := hV1.lt
    go_wp2_with fail
    refine (HG.out _ (HS.out _ hB1)).mono ?_
    rw [HH.out]
    rintro e w2 ⟨rfl, hb⟩
    have hB2 := since_step hB1 hb
    have hV2 := hV1.below hb
    have fz2 := (hb.frozen (p := ⟨w.heap.size, 2, none⟩) lq).trans fz1
    clear hb q0 q1 q2 lq hV1 fz1
    obtain ⟨q0, q1, q2⟩ := hV2.got
    simp only at q0 q1 q2
    have lq := hV2.lt
    go_wp2_with fail
    have HSL := Sl.new_ w2 (ints .i64 [hs0, xq]) 2
    refine (fsum_any _ 2 [hs0, xq] _ (by simp) hal HSL).mono ?_
    rw [hsum, HF1.out, HF2.out]
    rintro e w3 ⟨rfl, hb⟩
    have hb' := since_step (since_alloc (Below.refl _ w2) (.cells (ints .i64 [hs0, xq]).toArray 2)) hb
    have hB3 := since_step hB2 hb'
    have hV3 := hV2.below hb'
    have fz3 := (hb'.frozen (p := ⟨w.heap.size, 2, none⟩) lq).trans fz2
    clear hb hb' q0 q1 q2 lq hV2 fz2
    obtain ⟨q0, q1, q2⟩ := hV3.got
    simp only at q0 q1 q2
    have lq := hV3.lt
    go_wp2_with fail
    go_ret2
    rw [HR.out]
    exact ⟨LRes.nil _ _ _, hB3⟩
  · have HR : Hid (putLR l x = (25, [])) := Lib.hid (by rw [putLR, if_neg (by rw [hc]; decide), if_neg (fun h => h h1.1), if_pos h1.2])
    have HC := Lib.hid hc
    have hsum : [getL l x.ast x.tag, x.qty].sum = getL l x.ast x.tag + x.qty := by simp
    have hal : All64 [getL l x.ast x.tag, x.qty] := by intro y hy; simp at hy; rcases hy with rfl | rfl <;> assumption
    have HF1 : Hid (fV (getL l x.ast x.tag + x.qty) = getL l x.ast x.tag + x.qty) := Lib.hid (if_pos h1.1)
    have HF2 : Hid (fE (getL l x.ast x.tag + x.qty) = 0) := Lib.hid (if_pos h1.1)
    have hgz := h1.2.1
    have hln : (l.length : Int) = 16 := by have := h1.2.2; omega
    have hgq : (getL l x.ast x.tag == 0) = true := by rw [hgz]; rfl
    have hlq : ((l.length : Int) == 16) = true := by rw [hln]; rfl
    clear hgz hln
    clear h1 hc hq
    obtain ⟨hs0, hgg⟩ : ∃ v, getL l x.ast x.tag = v := ⟨_, rfl⟩
    rw [hgg] at hh64 HF1 HF2 hsum hal hgq
    have HH := Lib.hid hgg
    clear hgg
    obtain ⟨xa, xt, xq⟩ := x
    unfold Lt.val at *
    unfold Lt.cells at hB0 hV0
    simp only at *
    go_enter Try.func130, Try.ntmps130
    go_upto_region 1 with fail
    have fz0 : (w.alloc (.cells #[.int .i64 xa, .int .i64 xt, .int .i64 xq] 93)).frozen? ⟨w.heap.size, 2, none⟩ = false := by simp
    generalize hWW : w.alloc (.cells #[.int .i64 xa, .int .i64 xt, .int .i64 xq] 93) = w0 at *
    clear hWW
    obtain ⟨q0, q1, q2⟩ := hV0.got
    simp only at q0 q1 q2
    have lq := hV0.lt
    go_wp2_with fail
    refine (HCK.out _ (HS.out _ hB0)).mono ?_
    rw [HC.out]
    rintro e w1 ⟨rfl, hb⟩
    have hB1 := since_step hB0 hb
    have hV1 := hV0.below hb
    have fz1 := (hb.frozen (p := ⟨w.heap.size, 2, none⟩) lq).trans fz0
    clear hb q0 q1 q2 lq hV0 fz0
    obtain ⟨q0, q1, q2⟩ := hV1.got
    simp only at q0 q1 q2
    have lq := hV1.lt
    go_wp2_with fail
    refine (HG.out _ (HS.out _ hB1)).mono ?_
    rw [HH.out]
    rintro e w2 ⟨rfl, hb⟩
    have hB2 := since_step hB1 hb
    have hV2 := hV1.below hb
    have fz2 := (hb.frozen (p := ⟨w.heap.size, 2, none⟩) lq).trans fz1
    clear hb q0 q1 q2 lq hV1 fz1
    obtain ⟨q0, q1, q2⟩ := hV2.got
    simp only at q0 q1 q2
    have lq := hV2.lt
    go_wp2_with fail
    have HSL := Sl.new_ w2 (ints .i64 [hs0, xq]) 2
    refine (fsum_any _ 2 [hs0, xq] _ (by simp) hal HSL).mono ?_
    rw [hsum, HF1.out, HF2.out]
    rintro e w3 ⟨rfl, hb⟩
    have hb' := since_step (since_alloc (Below.refl _ w2) (.cells (ints .i64 [hs0, xq]).toArray 2)) hb
    have hB3 := since_step hB2 hb'
    have hV3 := hV2.below hb'
    have fz3 := (hb'.frozen (p := ⟨w.heap.size, 2, none⟩) lq).trans fz2
    clear hb hb' q0 q1 q2 lq hV2 fz2
    obtain ⟨q0, q1, q2⟩ := hV3.got
    simp only at q0 q1 q2
    have lq := hV3.lt
    go_wp2_with fail
    go_ret2
    rw [HR.out]
    exact ⟨LRes.nil _ _ _, hB3⟩
  · have HR : Hid (putLR l x = (0, putR ahL l ⟨x.ast, x.tag, getL l x.ast x.tag + x.qty⟩)) := Lib.hid (by rw [putLR, if_neg (by rw [hc]; decide), if_neg (fun h => h h1.1), if_neg (fun h => h1.2.2 h.2)])
    have HC := Lib.hid hc
    have hsum : [getL l x.ast x.tag, x.qty].sum = getL l x.ast x.tag + x.qty := by simp
    have hal : All64 [getL l x.ast x.tag, x.qty] := by intro y hy; simp at hy; rcases hy with rfl | rfl <;> assumption
    have HF1 : Hid (fV (getL l x.ast x.tag + x.qty) = getL l x.ast x.tag + x.qty) := Lib.hid (if_pos h1.1)
    have HF2 : Hid (fE (getL l x.ast x.tag + x.qty) = 0) := Lib.hid (if_pos h1.1)
    have hgz := h1.2.1
    have hln : (l.length : Int) ≠ 16 := by have := h1.2.2; omega
    have hgq : (getL l x.ast x.tag == 0) = true := by rw [hgz]; rfl
    have hlq : ((l.length : Int) == 16) = false := by simpa using hln
    clear hgz hln
    clear h1 hc hq
    obtain ⟨hs0, hgg⟩ : ∃ v, getL l x.ast x.tag = v := ⟨_, rfl⟩
    rw [hgg] at hh64 HF1 HF2 hsum hal hgq HR
    have HH := Lib.hid hgg
    clear hgg
    obtain ⟨xa, xt, xq⟩ := x
    unfold Lt.val at *
    unfold Lt.cells at hB0 hV0
    simp only at *
    go_enter Try.func130, Try.ntmps130
    go_upto_region 1 with fail
    have fz0 : (w.alloc (.cells #[.int .i64 xa, .int .i64 xt, .int .i64 xq] 93)).frozen? ⟨w.heap.size, 2, none⟩ = false := by simp
    generalize hWW : w.alloc (.cells #[.int .i64 xa, .int .i64 xt, .int .i64 xq] 93) = w0 at *
    clear hWW
    obtain ⟨q0, q1, q2⟩ := hV0.got
    simp only at q0 q1 q2
    have lq := hV0.lt
    go_wp2_with fail
    refine (HCK.out _ (HS.out _ hB0)).mono ?_
    rw [HC.out]
    rintro e w1 ⟨rfl, hb⟩
    have hB1 := since_step hB0 hb
    have hV1 := hV0.below hb
    have fz1 := (hb.frozen (p := ⟨w.heap.size, 2, none⟩) lq).trans fz0
    clear hb q0 q1 q2 lq hV0 fz0
    obtain ⟨q0, q1, q2⟩ := hV1.got
    simp only at q0 q1 q2
    have lq := hV1.lt
    go_wp2_with fail
    refine (HG.out _ (HS.out _ hB1)).mono ?_
    rw [HH.out]
    rintro e w2 ⟨rfl, hb⟩
    have hB2 := since_step hB1 hb
    have hV2 := hV1.below hb
    have fz2 := (hb.frozen (p := ⟨w.heap.size, 2, none⟩) lq).trans fz1
    clear hb q0 q1 q2 lq hV1 fz1
    obtain ⟨q0, q1, q2⟩ := hV2.got
    simp only at q0 q1 q2
    have lq := hV2.lt
    go_wp2_with fail
    have HSL := Sl.new_ w2 (ints .i64 [hs0, xq]) 2
    refine (fsum_any _ 2 [hs0, xq] _ (by simp) hal HSL).mono ?_
    rw [hsum, HF1.out, HF2.out]
    rintro e w3 ⟨rfl, hb⟩
    have hb' := since_step (since_alloc (Below.refl _ w2) (.cells (ints .i64 [hs0, xq]).toArray 2)) hb
    have hB3 := since_step hB2 hb'
    have hV3 := hV2.below hb'
    have fz3 := (hb'.frozen (p := ⟨w.heap.size, 2, none⟩) lq).trans fz2
    clear hb hb' q0 q1 q2 lq hV2 fz2
    obtain ⟨q0, q1, q2⟩ := hV3.got
    simp only at q0 q1 q2
    have lq := hV3.lt
    go_wp2_with fail
    have hBs := Below.setCell hB3 (p := ⟨w.heap.size, 2, none⟩) (Nat.le_refl _) (.int .i64 (hs0 + xq))
    refine (HP.out _ xa xt (hs0 + xq) (HS.out _ hBs)).mono ?_
    rw [putL_eq]
    rintro e w4 ⟨⟨A5, c5, rfl, own5⟩, hb⟩
    have hB4 := since_step hBs hb
    have own5 := own_base own5 hBs.size
    go_wp2_with fail
    go_ret2
    rw [HR.out]
    exact ⟨⟨A5, c5, rfl, own5⟩, hB4⟩
  · have HR : Hid (putLR l x = (0, putR ahL l ⟨x.ast, x.tag, getL l x.ast x.tag + x.qty⟩)) := Lib.hid (by rw [putLR, if_neg (by rw [hc]; decide), if_neg (fun h => h h1.1), if_neg (fun h => h1.2 h.1)])
    have HC := Lib.hid hc
    have hsum : [getL l x.ast x.tag, x.qty].sum = getL l x.ast x.tag + x.qty := by simp
    have hal : All64 [getL l x.ast x.tag, x.qty] := by intro y hy; simp at hy; rcases hy with rfl | rfl <;> assumption
    have HF1 : Hid (fV (getL l x.ast x.tag + x.qty) = getL l x.ast x.tag + x.qty) := Lib.hid (if_pos h1.1)
    have HF2 : Hid (fE (getL l x.ast x.tag + x.qty) = 0) := Lib.hid (if_pos h1.1)
    have hgq : (getL l x.ast x.tag == 0) = false := by simpa using h1.2
    clear h1 hc hq
    obtain ⟨hs0, hgg⟩ : ∃ v, getL l x.ast x.tag = v := ⟨_, rfl⟩
    rw [hgg] at hh64 HF1 HF2 hsum hal hgq HR
    have HH := Lib.hid hgg
    clear hgg
    obtain ⟨xa, xt, xq⟩ := x
    unfold Lt.val at *
    unfold Lt.cells at hB0 hV0
    simp only at *
    go_enter Try.func130, Try.ntmps130
    go_upto_region 1 with fail
    have fz0 : (w.alloc (.cells #[.int .i64 xa, .int .i64 xt, .int .i64 xq] 93)).frozen? ⟨w.heap.size, 2, none⟩ = false := by simp
    generalize hWW : w.alloc (.cells #[.int .i64 xa, .int .i64 xt, .int .i64 xq] 93) = w0 at *
    clear hWW
    obtain ⟨q0, q1, q2⟩ := hV0.got
    simp only at q0 q1 q2
    have lq := hV0.lt
    go_wp2_with fail
    refine (HCK.out _ (HS.out _ hB0)).mono ?_
    rw [HC.out]
    rintro e w1 ⟨rfl, hb⟩
    have hB1 := since_step hB0 hb
    have hV1 := hV0.below hb
    have fz1 := (hb.frozen (p := ⟨w.heap.size, 2, none⟩) lq).trans fz0
    clear hb q0 q1 q2 lq hV0 fz0
    obtain ⟨q0, q1, q2⟩ := hV1.got
    simp only at q0 q1 q2
    have lq := hV1.lt
    go_wp2_with fail
    refine (HG.out _ (HS.out _ hB1)).mono ?_
    rw [HH.out]
    rintro e w2 ⟨rfl, hb⟩
    have hB2 := since_step hB1 hb
    have hV2 := hV1.below hb
    have fz2 := (hb.frozen (p := ⟨w.heap.size, 2, none⟩) lq).trans fz1
    clear hb q0 q1 q2 lq hV1 fz1
    obtain ⟨q0, q1, q2⟩ := hV2.got
    simp only at q0 q1 q2
    have lq := hV2.lt
    go_wp2_with fail
    have HSL := Sl.new_ w2 (ints .i64 [hs0, xq]) 2
    refine (fsum_any _ 2 [hs0, xq] _ (by simp) hal HSL).mono ?_
    rw [hsum, HF1.out, HF2.out]
    rintro e w3 ⟨rfl, hb⟩
    have hb' := since_step (since_alloc (Below.refl _ w2) (.cells (ints .i64 [hs0, xq]).toArray 2)) hb
    have hB3 := since_step hB2 hb'
    have hV3 := hV2.below hb'
    have fz3 := (hb'.frozen (p := ⟨w.heap.size, 2, none⟩) lq).trans fz2
    clear hb hb' q0 q1 q2 lq hV2 fz2
    obtain ⟨q0, q1, q2⟩ := hV3.got
    simp only at q0 q1 q2
    have lq := hV3.lt
    go_wp2_with fail
    have hBs := Below.setCell hB3 (p := ⟨w.heap.size, 2, none⟩) (Nat.le_refl _) (.int .i64 (hs0 + xq))
    refine (HP.out _ xa xt (hs0 + xq) (HS.out _ hBs)).mono ?_
    rw [putL_eq]
    rintro e w4 ⟨⟨A5, c5, rfl, own5⟩, hb⟩
    have hB4 := since_step hBs hb
    have own5 := own_base own5 hBs.size
    go_wp2_with fail
    go_ret2
    rw [HR.out]
    exact ⟨⟨A5, c5, rfl, own5⟩, hB4⟩

set_option maxHeartbeats 8000000 in
set_option maxRecDepth 100000 in
theorem ltake_any (A : Option Addr) (cap : Nat) (l : List Lt) (x : Lt) (w : World) (hl : l.length ≤ 900000) (hx : In64 x.qty) (hq : ∀ y ∈ l, In64 y.qty) (hs : Sl w A (rc Lt.cells l)) :
    Calls Try.prog 133 #[.slice A l.length cap, x.val] w fun e w' => LRes w.heap.size w' e (takeLR l x) ∧ Below w.heap.size w w' := by
  have hh64 := getL_in hq x.ast x.tag
  have hB0 := since_alloc (Below.refl _ w) (.cells x.cells.toArray 93)
  have hV0 := Lt.Bx.new w x
  have HS : Hid (∀ V, Below w.heap.size w V → Sl V A (rc Lt.cells l)) := Lib.hid fun V h => hs.below h
  have HCK := Lib.hid (fun V h => lcheck_any A cap l x V (by omega) h)
  have HG := Lib.hid (fun V h => lget_any A cap l x.ast x.tag V (by omega) h)
  have HP := Lib.hid (fun V a t q h => put_lt A cap l ⟨a, t, q⟩ 173 #[] ahL V (by omega) h ent_lahead (tells_lahead _ _))
  have HD := Lib.hid (fun V b a t q h (hz : Lt.Bx V b ⟨a, t, q⟩) => drop_lt A cap l 211 #[.pointer (some ⟨b, 0, none⟩)] (sameL a t) V (by omega) h ent_same1 (tells_same1 ⟨a, t, q⟩ b _ hz))
  have HSM := Lib.hid (fun V a t q => lsame_any ⟨a, t, q⟩ V)
  clear hs
  rcases chkL_cases l x with hc | hc | hc
  · have HR : Hid (takeLR l x = (3, [])) := Lib.hid (by rw [takeLR, if_pos (by rw [hc]; decide), hc])
    have HC := Lib.hid hc
    clear hc hh64 hx hq
    obtain ⟨xa, xt, xq⟩ := x
    unfold Lt.val at *
    unfold Lt.cells at hB0 hV0
    simp only at *
    go_enter Try.func133, Try.ntmps133
    go_upto_region 1 with fail
    have fz0 : (w.alloc (.cells #[.int .i64 xa, .int .i64 xt, .int .i64 xq] 93)).frozen? ⟨w.heap.size, 2, none⟩ = false := by simp
    generalize hWW : w.alloc (.cells #[.int .i64 xa, .int .i64 xt, .int .i64 xq] 93) = w0 at *
    clear hWW
    obtain ⟨q0, q1, q2⟩ := hV0.got
    simp only at q0 q1 q2
    have lq := hV0.lt
    go_wp2_with fail
    refine (HCK.out _ (HS.out _ hB0)).mono ?_
    rw [HC.out]
    rintro e w1 ⟨rfl, hb⟩
    have hB1 := since_step hB0 hb
    have hV1 := hV0.below hb
    have fz1 := (hb.frozen (p := ⟨w.heap.size, 2, none⟩) lq).trans fz0
    clear hb q0 q1 q2 lq hV0 fz0
    obtain ⟨q0, q1, q2⟩ := hV1.got
    simp only at q0 q1 q2
    have lq := hV1.lt
    go_wp2_with fail
    go_ret2
    rw [HR.out]
    exact ⟨LRes.nil _ _ _, hB1⟩
  · have HR : Hid (takeLR l x = (2, [])) := Lib.hid (by rw [takeLR, if_pos (by rw [hc]; decide), hc])
    have HC := Lib.hid hc
    clear hc hh64 hx hq
    obtain ⟨xa, xt, xq⟩ := x
    unfold Lt.val at *
    unfold Lt.cells at hB0 hV0
    simp only at *
    go_enter Try.func133, Try.ntmps133
    go_upto_region 1 with fail
    have fz0 : (w.alloc (.cells #[.int .i64 xa, .int .i64 xt, .int .i64 xq] 93)).frozen? ⟨w.heap.size, 2, none⟩ = false := by simp
    generalize hWW : w.alloc (.cells #[.int .i64 xa, .int .i64 xt, .int .i64 xq] 93) = w0 at *
    clear hWW
    obtain ⟨q0, q1, q2⟩ := hV0.got
    simp only at q0 q1 q2
    have lq := hV0.lt
    go_wp2_with fail
    refine (HCK.out _ (HS.out _ hB0)).mono ?_
    rw [HC.out]
    rintro e w1 ⟨rfl, hb⟩
    have hB1 := since_step hB0 hb
    have hV1 := hV0.below hb
    have fz1 := (hb.frozen (p := ⟨w.heap.size, 2, none⟩) lq).trans fz0
    clear hb q0 q1 q2 lq hV0 fz0
    obtain ⟨q0, q1, q2⟩ := hV1.got
    simp only at q0 q1 q2
    have lq := hV1.lt
    go_wp2_with fail
    go_ret2
    rw [HR.out]
    exact ⟨LRes.nil _ _ _, hB1⟩
  obtain ⟨hi, ho⟩ := chkL_ok hc
  have hpos := okL_pos ho
  have hnn := getL_nn hi x.ast x.tag
  have hways : (getL l x.ast x.tag < x.qty) ∨ (getL l x.ast x.tag = x.qty) ∨ (x.qty < getL l x.ast x.tag) := by omega
  rcases hways with h1 | h1 | h1
  · have HR : Hid (takeLR l x = (23, [])) := Lib.hid (by rw [takeLR, if_neg (by rw [hc]; decide), if_pos h1])
    have HC := Lib.hid hc
    obtain ⟨hs0, hgg⟩ : ∃ v, getL l x.ast x.tag = v := ⟨_, rfl⟩
    rw [hgg] at h1
    have HH := Lib.hid hgg
    clear hgg hc hi ho hq hpos hnn hh64 hx
    obtain ⟨xa, xt, xq⟩ := x
    unfold Lt.val at *
    unfold Lt.cells at hB0 hV0
    simp only at *
    go_enter Try.func133, Try.ntmps133
    go_upto_region 1 with fail
    have fz0 : (w.alloc (.cells #[.int .i64 xa, .int .i64 xt, .int .i64 xq] 93)).frozen? ⟨w.heap.size, 2, none⟩ = false := by simp
    generalize hWW : w.alloc (.cells #[.int .i64 xa, .int .i64 xt, .int .i64 xq] 93) = w0 at *
    clear hWW
    obtain ⟨q0, q1, q2⟩ := hV0.got
    simp only at q0 q1 q2
    have lq := hV0.lt
    go_wp2_with fail
    refine (HCK.out _ (HS.out _ hB0)).mono ?_
    rw [HC.out]
    rintro e w1 ⟨rfl, hb⟩
    have hB1 := since_step hB0 hb
    have hV1 := hV0.below hb
    have fz1 := (hb.frozen (p := ⟨w.heap.size, 2, none⟩) lq).trans fz0
    clear hb q0 q1 q2 lq hV0 fz0
    obtain ⟨q0, q1, q2⟩ := hV1.got
    simp only at q0 q1 q2
    have lq := hV1.lt
    go_wp2_with fail
    refine (HG.out _ (HS.out _ hB1)).mono ?_
    rw [HH.out]
    rintro e w2 ⟨rfl, hb⟩
    have hB2 := since_step hB1 hb
    have hV2 := hV1.below hb
    have fz2 := (hb.frozen (p := ⟨w.heap.size, 2, none⟩) lq).trans fz1
    clear hb q0 q1 q2 lq hV1 fz1
    obtain ⟨q0, q1, q2⟩ := hV2.got
    simp only at q0 q1 q2
    have lq := hV2.lt
    go_wp2_with fail
    go_ret2
    rw [HR.out]
    exact ⟨LRes.nil _ _ _, hB2⟩
  · have HR : Hid (takeLR l x = (0, l.filter fun y => !sameL x.ast x.tag y)) := Lib.hid (by rw [takeLR, if_neg (by rw [hc]; decide), if_neg (by omega), if_pos h1])
    have HC := Lib.hid hc
    have h1b : ¬ getL l x.ast x.tag < x.qty := by omega
    have h2b : (getL l x.ast x.tag == x.qty) = true := by simpa using h1
    obtain ⟨hs0, hgg⟩ : ∃ v, getL l x.ast x.tag = v := ⟨_, rfl⟩
    rw [hgg] at h1b h2b
    have HH := Lib.hid hgg
    clear hgg hc hi ho hq hpos hnn hh64 hx h1
    obtain ⟨xa, xt, xq⟩ := x
    unfold Lt.val at *
    unfold Lt.cells at hB0 hV0
    simp only at *
    go_enter Try.func133, Try.ntmps133
    go_upto_region 1 with fail
    have fz0 : (w.alloc (.cells #[.int .i64 xa, .int .i64 xt, .int .i64 xq] 93)).frozen? ⟨w.heap.size, 2, none⟩ = false := by simp
    generalize hWW : w.alloc (.cells #[.int .i64 xa, .int .i64 xt, .int .i64 xq] 93) = w0 at *
    clear hWW
    obtain ⟨q0, q1, q2⟩ := hV0.got
    simp only at q0 q1 q2
    have lq := hV0.lt
    go_wp2_with fail
    refine (HCK.out _ (HS.out _ hB0)).mono ?_
    rw [HC.out]
    rintro e w1 ⟨rfl, hb⟩
    have hB1 := since_step hB0 hb
    have hV1 := hV0.below hb
    have fz1 := (hb.frozen (p := ⟨w.heap.size, 2, none⟩) lq).trans fz0
    clear hb q0 q1 q2 lq hV0 fz0
    obtain ⟨q0, q1, q2⟩ := hV1.got
    simp only at q0 q1 q2
    have lq := hV1.lt
    go_wp2_with fail
    refine (HG.out _ (HS.out _ hB1)).mono ?_
    rw [HH.out]
    rintro e w2 ⟨rfl, hb⟩
    have hB2 := since_step hB1 hb
    have hV2 := hV1.below hb
    have fz2 := (hb.frozen (p := ⟨w.heap.size, 2, none⟩) lq).trans fz1
    clear hb q0 q1 q2 lq hV1 fz1
    obtain ⟨q0, q1, q2⟩ := hV2.got
    simp only at q0 q1 q2
    have lq := hV2.lt
    go_wp2_with fail
    refine (HSM.out _ xa xt xq).mono ?_
    rintro e w3 ⟨⟨b, rfl, hz⟩, hb⟩
    have hB3 := since_step hB2 hb
    clear hb
    go_wp2_with fail
    refine (HD.out _ b xa xt xq (HS.out _ hB3) hz).mono ?_
    rintro e w4 ⟨⟨A5, c5, rfl, own5⟩, hb⟩
    have hB4 := since_step hB3 hb
    have own5 := own_base own5 hB3.size
    go_wp2_with fail
    go_ret2
    rw [HR.out]
    exact ⟨⟨A5, c5, rfl, own5⟩, hB4⟩
  · have HR : Hid (takeLR l x = (0, putR ahL l ⟨x.ast, x.tag, getL l x.ast x.tag - x.qty⟩)) := Lib.hid (by rw [takeLR, if_neg (by rw [hc]; decide), if_neg (by omega), if_neg (by omega)])
    have HC := Lib.hid hc
    have h1b : ¬ getL l x.ast x.tag < x.qty := by omega
    have h2b : (getL l x.ast x.tag == x.qty) = false := by simp; omega
    have hwr : IntKind.i64.wrap (getL l x.ast x.tag - x.qty) = getL l x.ast x.tag - x.qty := IntWalk.i64_in _ (by unfold In64 at *; omega)
    obtain ⟨hs0, hgg⟩ : ∃ v, getL l x.ast x.tag = v := ⟨_, rfl⟩
    rw [hgg] at h1b h2b hwr HR
    have HH := Lib.hid hgg
    clear hgg hc hi ho hq hpos hnn hh64 hx h1
    obtain ⟨xa, xt, xq⟩ := x
    unfold Lt.val at *
    unfold Lt.cells at hB0 hV0
    simp only at *
    go_enter Try.func133, Try.ntmps133
    go_upto_region 1 with fail
    have fz0 : (w.alloc (.cells #[.int .i64 xa, .int .i64 xt, .int .i64 xq] 93)).frozen? ⟨w.heap.size, 2, none⟩ = false := by simp
    generalize hWW : w.alloc (.cells #[.int .i64 xa, .int .i64 xt, .int .i64 xq] 93) = w0 at *
    clear hWW
    obtain ⟨q0, q1, q2⟩ := hV0.got
    simp only at q0 q1 q2
    have lq := hV0.lt
    go_wp2_with fail
    refine (HCK.out _ (HS.out _ hB0)).mono ?_
    rw [HC.out]
    rintro e w1 ⟨rfl, hb⟩
    have hB1 := since_step hB0 hb
    have hV1 := hV0.below hb
    have fz1 := (hb.frozen (p := ⟨w.heap.size, 2, none⟩) lq).trans fz0
    clear hb q0 q1 q2 lq hV0 fz0
    obtain ⟨q0, q1, q2⟩ := hV1.got
    simp only at q0 q1 q2
    have lq := hV1.lt
    go_wp2_with fail
    refine (HG.out _ (HS.out _ hB1)).mono ?_
    rw [HH.out]
    rintro e w2 ⟨rfl, hb⟩
    have hB2 := since_step hB1 hb
    have hV2 := hV1.below hb
    have fz2 := (hb.frozen (p := ⟨w.heap.size, 2, none⟩) lq).trans fz1
    clear hb q0 q1 q2 lq hV1 fz1
    obtain ⟨q0, q1, q2⟩ := hV2.got
    simp only at q0 q1 q2
    have lq := hV2.lt
    go_wp2_with fail
    have hBs := Below.setCell hB2 (p := ⟨w.heap.size, 2, none⟩) (Nat.le_refl _) (.int .i64 (hs0 - xq))
    refine (HP.out _ xa xt (hs0 - xq) (HS.out _ hBs)).mono ?_
    rw [putL_eq]
    rintro e w4 ⟨⟨A5, c5, rfl, own5⟩, hb⟩
    have hB4 := since_step hBs hb
    have own5 := own_base own5 hBs.size
    go_wp2_with fail
    go_ret2
    rw [HR.out]
    exact ⟨⟨A5, c5, rfl, own5⟩, hB4⟩
end Go.Proofs.Ytldnponbkhgijaa
end
section
/-
  Layer 18, third part: Is and set of the document (laid by gen_lots3.py).
-/
namespace Go.Proofs.Ytldnponbkhgijaa
open Go.ChangeShapes Go.WideShapes Go.ChangeAt Go.RowKit
set_option linter.unusedVariables false
set_option linter.unusedSimpArgs false

theorem isLs_low {l : List Lt} {j : Nat} (h : j + 1 < l.length) (hb : ahL (l[j]'(by omega)) l[j + 1] = false) : isLs l = false := by
  unfold isLs
  rw [risingL_false h hb]; simp
theorem isLs_end {l : List Lt} (h1 : ∀ j, (hj : j < l.length) → okL l[j] = true) (h2 : ∀ j, (hj : j + 1 < l.length) → ahL (l[j]'(by omega)) l[j + 1] = true) : isLs l = decide (l.length ≤ 16) := by
  unfold isLs
  rw [all_ok h1, (risingL_iff ahL l).2 h2]; simp

set_option maxHeartbeats 4000000 in
set_option maxRecDepth 100000 in
theorem ris_any (A : Option Addr) (cap : Nat) (l : List Lt) (w : World) (hl : l.length ≤ 1000000) (hs : Sl w A (rc Lt.cells l)) :
    Calls Try.prog 124 #[.slice A l.length cap] w fun e w' => e = .returned (.bool (isLs l)) ∧ Below w.heap.size w w' := by
  go_enter Try.func124, Try.ntmps124
  go_wp2_with fail
  go_loopw [3] (fun i wr => ∃ k : Nat, k ≤ l.length ∧ i = .int .i64 k ∧ (∀ j, (hj : j < l.length) → j < k → okL l[j] = true) ∧ (∀ j, (hj : j + 1 < l.length) → j + 1 < k → ahL (l[j]'(by omega)) l[j + 1] = true) ∧ Below w.heap.size w wr) (fun i _ => l.length - (intOf i).toNat)
  case atStart => exact ⟨0, by omega, rfl, fun j hj h => absurd h (by omega), fun j hj h => absurd h (by omega), Below.refl _ _⟩
  case round =>
    obtain ⟨k, hk, rfl, hno, hri, hB⟩ := hrel
    by_cases hlt : k < l.length
    · obtain ⟨b, o, rfl, hbw, hg⟩ := (hs.below hB).lt hlt
      have hlk : (k : Int) < (l.length : Int) := by omega
      have HF := Lib.hid (fun V => one_any l[k] V)
      have hk0 : (0 : Int) ≤ (k : Int) := by omega
      cases hq : okL l[k] with
      | false =>
        have HE : Hid (isLs l = false) := Lib.hid (isLs_bad hlt hq)
        rw [hq] at HF
        clear hno hri hq
        generalize l[k] = v at *
        have HX : Hid (∀ V, Below wr.heap.size wr V → Lt.at v V b (o + k * 3)) := Lib.hid fun V hV => Lt.at_keep (w := wr) hg fun i => hV.cell (p := ⟨b, i, none⟩) hbw
        unfold Lt.at at HX
        unfold Lt.val at HF
        clear hg
        go_wp2_with fail
        refine wp_region_held_drew (S := (fun V => Below wr.heap.size wr V)) (by kernel_rfl) (by exact (Below.refl _ _).drew) (fun hHeld => ?_)
        refine wpAnyH_take (i := 0) (oi := { dst := some 10, op := _, type := _, pos := _, after := _, guard := _ }) (v := ?_) rfl (by kernel_rfl) (by kernel_rfl) (by kernel_rfl) (fun _ _ _ h => h) (Or.inl ⟨by rfl, ?_⟩) hHeld ?_
        rotate_left
        · (intro w hSw; obtain ⟨x0, x1, x2⟩ := HX.out _ hSw; go_simp <;> with_reducible rfl)
        try simp only [Act.put, List.setIfInBounds_toArray, List.set_cons_zero, List.set_cons_succ]
        refine wpAnyH_take (i := 1) (oi := { dst := some 11, op := _, type := _, pos := _, after := _, guard := _ }) (v := ?_) rfl (by kernel_rfl) (by kernel_rfl) (by kernel_rfl) (fun _ _ _ h => h) (Or.inl ⟨by rfl, ?_⟩) hHeld ?_
        rotate_left
        · (intro w hSw; obtain ⟨x0, x1, x2⟩ := HX.out _ hSw; go_simp <;> with_reducible rfl)
        try simp only [Act.put, List.setIfInBounds_toArray, List.set_cons_zero, List.set_cons_succ]
        refine wpAnyH_take (i := 2) (oi := { dst := some 12, op := _, type := _, pos := _, after := _, guard := _ }) (v := ?_) rfl (by kernel_rfl) (by kernel_rfl) (by kernel_rfl) (fun _ _ _ h => h) (Or.inl ⟨by rfl, ?_⟩) hHeld ?_
        rotate_left
        · (intro w hSw; obtain ⟨x0, x1, x2⟩ := HX.out _ hSw; go_simp <;> with_reducible rfl)
        try simp only [Act.put, List.setIfInBounds_toArray, List.set_cons_zero, List.set_cons_succ]
        refine wpAnyH_take (i := 3) (oi := { dst := some 13, op := _, type := _, pos := _, after := _, guard := _ }) (v := ?_) rfl (by kernel_rfl) (by kernel_rfl) (by kernel_rfl) (fun _ _ _ h => h) (Or.inl ⟨by rfl, ?_⟩) hHeld ?_
        rotate_left
        · (intro w hSw; obtain ⟨x0, x1, x2⟩ := HX.out _ hSw; go_simp <;> with_reducible rfl)
        try simp only [Act.put, List.setIfInBounds_toArray, List.set_cons_zero, List.set_cons_succ]
        refine wpAnyH_ready (rs := [4]) (by kernel_rfl) (by simp) ?_
        refine AllReadyH.cons (o := { dst := some 14, op := _, type := _, pos := _, after := _, guard := _ }) rfl (fun K hK => ?_) AllReadyH.nil
        go_simp
        refine (HF.out _).mono ?_
        rintro e y4 ⟨rfl, hk4⟩
        have hKeep := since_step hHeld hk4
        go_wp2_with fail
        refine hK.out _ _ (by (try dsimp only); exact hKeep) (fun hHeld => ?_)
        clear hK K hKeep
        try simp only [Act.put, List.setIfInBounds_toArray, List.set_cons_zero, List.set_cons_succ]
        refine wpAnyH_take (i := 5) (oi := { dst := some 15, op := _, type := _, pos := _, after := _, guard := _ }) (v := ?_) rfl (by kernel_rfl) (by kernel_rfl) (by kernel_rfl) (fun _ _ _ h => h) (Or.inl ⟨by rfl, ?_⟩) hHeld ?_
        rotate_left
        · (intro w hSw; obtain ⟨x0, x1, x2⟩ := HX.out _ hSw; go_simp <;> with_reducible rfl)
        try simp only [Act.put, List.setIfInBounds_toArray, List.set_cons_zero, List.set_cons_succ]
        refine wpAnyH_take (i := 6) (oi := { dst := some 16, op := _, type := _, pos := _, after := _, guard := _ }) (v := ?_) rfl (by kernel_rfl) (by kernel_rfl) (by kernel_rfl) (fun _ _ _ h => h) (Or.inl ⟨by rfl, ?_⟩) hHeld ?_
        rotate_left
        · (intro w hSw; obtain ⟨x0, x1, x2⟩ := HX.out _ hSw; go_simp <;> with_reducible rfl)
        try simp only [Act.put, List.setIfInBounds_toArray, List.set_cons_zero, List.set_cons_succ]
        refine wpAnyH_take (i := 7) (oi := { dst := some 17, op := _, type := _, pos := _, after := _, guard := _ }) (v := undef) rfl (by kernel_rfl) (by kernel_rfl) (by kernel_rfl) (fun _ _ _ h => h) (Or.inr ⟨by rfl, rfl⟩) hHeld ?_
        try simp only [Act.put, List.setIfInBounds_toArray, List.set_cons_zero, List.set_cons_succ]
        refine wpAnyH_take (i := 8) (oi := { dst := some 18, op := _, type := _, pos := _, after := _, guard := _ }) (v := undef) rfl (by kernel_rfl) (by kernel_rfl) (by kernel_rfl) (fun _ _ _ h => h) (Or.inr ⟨by rfl, rfl⟩) hHeld ?_
        try simp only [Act.put, List.setIfInBounds_toArray, List.set_cons_zero, List.set_cons_succ]
        refine wpAnyH_take (i := 9) (oi := { dst := some 19, op := _, type := _, pos := _, after := _, guard := _ }) (v := undef) rfl (by kernel_rfl) (by kernel_rfl) (by kernel_rfl) (fun _ _ _ h => h) (Or.inr ⟨by rfl, rfl⟩) hHeld ?_
        try simp only [Act.put, List.setIfInBounds_toArray, List.set_cons_zero, List.set_cons_succ]
        refine wpAnyH_take (i := 10) (oi := { dst := some 20, op := _, type := _, pos := _, after := _, guard := _ }) (v := undef) rfl (by kernel_rfl) (by kernel_rfl) (by kernel_rfl) (fun _ _ _ h => h) (Or.inr ⟨by rfl, rfl⟩) hHeld ?_
        try simp only [Act.put, List.setIfInBounds_toArray, List.set_cons_zero, List.set_cons_succ]
        refine wpAnyH_take (i := 11) (oi := { dst := some 21, op := _, type := _, pos := _, after := _, guard := _ }) (v := undef) rfl (by kernel_rfl) (by kernel_rfl) (by kernel_rfl) (fun _ _ _ h => h) (Or.inr ⟨by rfl, rfl⟩) hHeld ?_
        try simp only [Act.put, List.setIfInBounds_toArray, List.set_cons_zero, List.set_cons_succ]
        refine wpAnyH_take (i := 12) (oi := { dst := some 22, op := _, type := _, pos := _, after := _, guard := _ }) (v := undef) rfl (by kernel_rfl) (by kernel_rfl) (by kernel_rfl) (fun _ _ _ h => h) (Or.inr ⟨by rfl, rfl⟩) hHeld ?_
        try simp only [Act.put, List.setIfInBounds_toArray, List.set_cons_zero, List.set_cons_succ]
        refine wpAnyH_take (i := 13) (oi := { dst := some 23, op := _, type := _, pos := _, after := _, guard := _ }) (v := undef) rfl (by kernel_rfl) (by kernel_rfl) (by kernel_rfl) (fun _ _ _ h => h) (Or.inr ⟨by rfl, rfl⟩) hHeld ?_
        try simp only [Act.put, List.setIfInBounds_toArray, List.set_cons_zero, List.set_cons_succ]
        refine wpAnyH_take (i := 14) (oi := { dst := some 24, op := _, type := _, pos := _, after := _, guard := _ }) (v := undef) rfl (by kernel_rfl) (by kernel_rfl) (by kernel_rfl) (fun _ _ _ h => h) (Or.inr ⟨by rfl, rfl⟩) hHeld ?_
        try simp only [Act.put, List.setIfInBounds_toArray, List.set_cons_zero, List.set_cons_succ]
        refine wpAnyH_take (i := 15) (oi := { dst := some 25, op := _, type := _, pos := _, after := _, guard := _ }) (v := undef) rfl (by kernel_rfl) (by kernel_rfl) (by kernel_rfl) (fun _ _ _ h => h) (Or.inr ⟨by rfl, rfl⟩) hHeld ?_
        try simp only [Act.put, List.setIfInBounds_toArray, List.set_cons_zero, List.set_cons_succ]
        refine wpAnyH_take (i := 16) (oi := { dst := some 26, op := _, type := _, pos := _, after := _, guard := _ }) (v := undef) rfl (by kernel_rfl) (by kernel_rfl) (by kernel_rfl) (fun _ _ _ h => h) (Or.inr ⟨by rfl, rfl⟩) hHeld ?_
        try simp only [Act.put, List.setIfInBounds_toArray, List.set_cons_zero, List.set_cons_succ]
        refine wpAnyH_take (i := 17) (oi := { dst := some 27, op := _, type := _, pos := _, after := _, guard := _ }) (v := undef) rfl (by kernel_rfl) (by kernel_rfl) (by kernel_rfl) (fun _ _ _ h => h) (Or.inr ⟨by rfl, rfl⟩) hHeld ?_
        try simp only [Act.put, List.setIfInBounds_toArray, List.set_cons_zero, List.set_cons_succ]
        refine wpAnyH_take (i := 18) (oi := { dst := some 28, op := _, type := _, pos := _, after := _, guard := _ }) (v := undef) rfl (by kernel_rfl) (by kernel_rfl) (by kernel_rfl) (fun _ _ _ h => h) (Or.inr ⟨by rfl, rfl⟩) hHeld ?_
        try simp only [Act.put, List.setIfInBounds_toArray, List.set_cons_zero, List.set_cons_succ]
        refine wpAnyH_take (i := 19) (oi := { dst := some 29, op := _, type := _, pos := _, after := _, guard := _ }) (v := undef) rfl (by kernel_rfl) (by kernel_rfl) (by kernel_rfl) (fun _ _ _ h => h) (Or.inr ⟨by rfl, rfl⟩) hHeld ?_
        try simp only [Act.put, List.setIfInBounds_toArray, List.set_cons_zero, List.set_cons_succ]
        refine wpAnyH_take (i := 20) (oi := { dst := some 30, op := _, type := _, pos := _, after := _, guard := _ }) (v := undef) rfl (by kernel_rfl) (by kernel_rfl) (by kernel_rfl) (fun _ _ _ h => h) (Or.inr ⟨by rfl, rfl⟩) hHeld ?_
        try simp only [Act.put, List.setIfInBounds_toArray, List.set_cons_zero, List.set_cons_succ]
        refine wpAnyH_take (i := 21) (oi := { dst := some 31, op := _, type := _, pos := _, after := _, guard := _ }) (v := undef) rfl (by kernel_rfl) (by kernel_rfl) (by kernel_rfl) (fun _ _ _ h => h) (Or.inr ⟨by rfl, rfl⟩) hHeld ?_
        try simp only [Act.put, List.setIfInBounds_toArray, List.set_cons_zero, List.set_cons_succ]
        refine wpAnyH_take (i := 22) (oi := { dst := some 32, op := _, type := _, pos := _, after := _, guard := _ }) (v := ?_) rfl (by kernel_rfl) (by kernel_rfl) (by kernel_rfl) (fun _ _ _ h => h) (Or.inl ⟨by rfl, ?_⟩) hHeld ?_
        rotate_left
        · (intro w hSw; obtain ⟨x0, x1, x2⟩ := HX.out _ hSw; go_simp <;> with_reducible rfl)
        try simp only [Act.put, List.setIfInBounds_toArray, List.set_cons_zero, List.set_cons_succ]
        refine wpAnyH_done (by kernel_rfl) ?_ _
        have hB2 := hB.trans (hHeld.mono hB.size)
        go_wp2_with fail
        go_ret
        exact ⟨retB HE.out.symm, hB2⟩
      | true =>
        have HN1 : Hid (∀ j, (hj : j < l.length) → j < k + 1 → okL l[j] = true) := Lib.hid (fun j hj hjk => by
          rcases Nat.lt_or_ge j k with h' | h'
          · exact hno j hj h'
          · obtain rfl : j = k := by omega
            exact hq)
        rw [hq] at HF
        clear hno hq
        rcases Nat.eq_zero_or_pos k with hz | hz
        · have HN2 : Hid (∀ j, (hj : j + 1 < l.length) → j + 1 < k + 1 → ahL (l[j]'(by omega)) l[j + 1] = true) := Lib.hid (fun j hj h => absurd h (by omega))
          clear hri
          generalize l[k] = v at *
          have HX : Hid (∀ V, Below wr.heap.size wr V → Lt.at v V b (o + k * 3)) := Lib.hid fun V hV => Lt.at_keep (w := wr) hg fun i => hV.cell (p := ⟨b, i, none⟩) hbw
          have hzi : ¬ (0 : Int) < (k : Int) := by omega
          have hzd : decide ((0 : Int) < (k : Int)) = false := decide_eq_false hzi
          have hzn : ¬ 0 < k := by omega
          clear hz
          unfold Lt.at at HX
          unfold Lt.val at HF
          clear hg
          go_wp2_with fail
          refine wp_region_held_drew (S := (fun V => Below wr.heap.size wr V)) (by kernel_rfl) (by exact (Below.refl _ _).drew) (fun hHeld => ?_)
          refine wpAnyH_take (i := 0) (oi := { dst := some 10, op := _, type := _, pos := _, after := _, guard := _ }) (v := ?_) rfl (by kernel_rfl) (by kernel_rfl) (by kernel_rfl) (fun _ _ _ h => h) (Or.inl ⟨by rfl, ?_⟩) hHeld ?_
          rotate_left
          · (intro w hSw; obtain ⟨x0, x1, x2⟩ := HX.out _ hSw; go_simp <;> with_reducible rfl)
          try simp only [Act.put, List.setIfInBounds_toArray, List.set_cons_zero, List.set_cons_succ]
          refine wpAnyH_take (i := 1) (oi := { dst := some 11, op := _, type := _, pos := _, after := _, guard := _ }) (v := ?_) rfl (by kernel_rfl) (by kernel_rfl) (by kernel_rfl) (fun _ _ _ h => h) (Or.inl ⟨by rfl, ?_⟩) hHeld ?_
          rotate_left
          · (intro w hSw; obtain ⟨x0, x1, x2⟩ := HX.out _ hSw; go_simp <;> with_reducible rfl)
          try simp only [Act.put, List.setIfInBounds_toArray, List.set_cons_zero, List.set_cons_succ]
          refine wpAnyH_take (i := 2) (oi := { dst := some 12, op := _, type := _, pos := _, after := _, guard := _ }) (v := ?_) rfl (by kernel_rfl) (by kernel_rfl) (by kernel_rfl) (fun _ _ _ h => h) (Or.inl ⟨by rfl, ?_⟩) hHeld ?_
          rotate_left
          · (intro w hSw; obtain ⟨x0, x1, x2⟩ := HX.out _ hSw; go_simp <;> with_reducible rfl)
          try simp only [Act.put, List.setIfInBounds_toArray, List.set_cons_zero, List.set_cons_succ]
          refine wpAnyH_take (i := 3) (oi := { dst := some 13, op := _, type := _, pos := _, after := _, guard := _ }) (v := ?_) rfl (by kernel_rfl) (by kernel_rfl) (by kernel_rfl) (fun _ _ _ h => h) (Or.inl ⟨by rfl, ?_⟩) hHeld ?_
          rotate_left
          · (intro w hSw; obtain ⟨x0, x1, x2⟩ := HX.out _ hSw; go_simp <;> with_reducible rfl)
          try simp only [Act.put, List.setIfInBounds_toArray, List.set_cons_zero, List.set_cons_succ]
          refine wpAnyH_ready (rs := [4]) (by kernel_rfl) (by simp) ?_
          refine AllReadyH.cons (o := { dst := some 14, op := _, type := _, pos := _, after := _, guard := _ }) rfl (fun K hK => ?_) AllReadyH.nil
          go_simp
          refine (HF.out _).mono ?_
          rintro e y4 ⟨rfl, hk4⟩
          have hKeep := since_step hHeld hk4
          go_wp2_with fail
          refine hK.out _ _ (by (try dsimp only); exact hKeep) (fun hHeld => ?_)
          clear hK K hKeep
          try simp only [Act.put, List.setIfInBounds_toArray, List.set_cons_zero, List.set_cons_succ]
          refine wpAnyH_take (i := 5) (oi := { dst := some 15, op := _, type := _, pos := _, after := _, guard := _ }) (v := ?_) rfl (by kernel_rfl) (by kernel_rfl) (by kernel_rfl) (fun _ _ _ h => h) (Or.inl ⟨by rfl, ?_⟩) hHeld ?_
          rotate_left
          · (intro w hSw; obtain ⟨x0, x1, x2⟩ := HX.out _ hSw; go_simp <;> with_reducible rfl)
          try simp only [Act.put, List.setIfInBounds_toArray, List.set_cons_zero, List.set_cons_succ]
          refine wpAnyH_take (i := 6) (oi := { dst := some 16, op := _, type := _, pos := _, after := _, guard := _ }) (v := ?_) rfl (by kernel_rfl) (by kernel_rfl) (by kernel_rfl) (fun _ _ _ h => h) (Or.inl ⟨by rfl, ?_⟩) hHeld ?_
          rotate_left
          · (intro w hSw; obtain ⟨x0, x1, x2⟩ := HX.out _ hSw; go_simp <;> with_reducible rfl)
          try simp only [Act.put, List.setIfInBounds_toArray, List.set_cons_zero, List.set_cons_succ]
          refine wpAnyH_take (i := 7) (oi := { dst := some 17, op := _, type := _, pos := _, after := _, guard := _ }) (v := ?_) rfl (by kernel_rfl) (by kernel_rfl) (by kernel_rfl) (fun _ _ _ h => h) (Or.inl ⟨by rfl, ?_⟩) hHeld ?_
          rotate_left
          · (intro w hSw; obtain ⟨x0, x1, x2⟩ := HX.out _ hSw; go_simp <;> with_reducible rfl)
          try simp only [Act.put, List.setIfInBounds_toArray, List.set_cons_zero, List.set_cons_succ]
          refine wpAnyH_take (i := 8) (oi := { dst := some 18, op := _, type := _, pos := _, after := _, guard := _ }) (v := ?_) rfl (by kernel_rfl) (by kernel_rfl) (by kernel_rfl) (fun _ _ _ h => h) (Or.inl ⟨by rfl, ?_⟩) hHeld ?_
          rotate_left
          · (intro w hSw; obtain ⟨x0, x1, x2⟩ := HX.out _ hSw; go_simp <;> with_reducible rfl)
          try simp only [Act.put, List.setIfInBounds_toArray, List.set_cons_zero, List.set_cons_succ]
          refine wpAnyH_take (i := 9) (oi := { dst := some 19, op := _, type := _, pos := _, after := _, guard := _ }) (v := ?_) rfl (by kernel_rfl) (by kernel_rfl) (by kernel_rfl) (fun _ _ _ h => h) (Or.inl ⟨by rfl, ?_⟩) hHeld ?_
          rotate_left
          · (intro w hSw; obtain ⟨x0, x1, x2⟩ := HX.out _ hSw; go_simp <;> with_reducible rfl)
          try simp only [Act.put, List.setIfInBounds_toArray, List.set_cons_zero, List.set_cons_succ]
          refine wpAnyH_take (i := 10) (oi := { dst := some 20, op := _, type := _, pos := _, after := _, guard := _ }) (v := undef) rfl (by kernel_rfl) (by kernel_rfl) (by kernel_rfl) (fun _ _ _ h => h) (Or.inr ⟨by rfl, rfl⟩) hHeld ?_
          try simp only [Act.put, List.setIfInBounds_toArray, List.set_cons_zero, List.set_cons_succ]
          refine wpAnyH_take (i := 11) (oi := { dst := some 21, op := _, type := _, pos := _, after := _, guard := _ }) (v := undef) rfl (by kernel_rfl) (by kernel_rfl) (by kernel_rfl) (fun _ _ _ h => h) (Or.inr ⟨by rfl, rfl⟩) hHeld ?_
          try simp only [Act.put, List.setIfInBounds_toArray, List.set_cons_zero, List.set_cons_succ]
          refine wpAnyH_take (i := 12) (oi := { dst := some 22, op := _, type := _, pos := _, after := _, guard := _ }) (v := undef) rfl (by kernel_rfl) (by kernel_rfl) (by kernel_rfl) (fun _ _ _ h => h) (Or.inr ⟨by rfl, rfl⟩) hHeld ?_
          try simp only [Act.put, List.setIfInBounds_toArray, List.set_cons_zero, List.set_cons_succ]
          refine wpAnyH_take (i := 13) (oi := { dst := some 23, op := _, type := _, pos := _, after := _, guard := _ }) (v := undef) rfl (by kernel_rfl) (by kernel_rfl) (by kernel_rfl) (fun _ _ _ h => h) (Or.inr ⟨by rfl, rfl⟩) hHeld ?_
          try simp only [Act.put, List.setIfInBounds_toArray, List.set_cons_zero, List.set_cons_succ]
          refine wpAnyH_take (i := 14) (oi := { dst := some 24, op := _, type := _, pos := _, after := _, guard := _ }) (v := undef) rfl (by kernel_rfl) (by kernel_rfl) (by kernel_rfl) (fun _ _ _ h => h) (Or.inr ⟨by rfl, rfl⟩) hHeld ?_
          try simp only [Act.put, List.setIfInBounds_toArray, List.set_cons_zero, List.set_cons_succ]
          refine wpAnyH_take (i := 15) (oi := { dst := some 25, op := _, type := _, pos := _, after := _, guard := _ }) (v := undef) rfl (by kernel_rfl) (by kernel_rfl) (by kernel_rfl) (fun _ _ _ h => h) (Or.inr ⟨by rfl, rfl⟩) hHeld ?_
          try simp only [Act.put, List.setIfInBounds_toArray, List.set_cons_zero, List.set_cons_succ]
          refine wpAnyH_take (i := 16) (oi := { dst := some 26, op := _, type := _, pos := _, after := _, guard := _ }) (v := undef) rfl (by kernel_rfl) (by kernel_rfl) (by kernel_rfl) (fun _ _ _ h => h) (Or.inr ⟨by rfl, rfl⟩) hHeld ?_
          try simp only [Act.put, List.setIfInBounds_toArray, List.set_cons_zero, List.set_cons_succ]
          refine wpAnyH_take (i := 17) (oi := { dst := some 27, op := _, type := _, pos := _, after := _, guard := _ }) (v := undef) rfl (by kernel_rfl) (by kernel_rfl) (by kernel_rfl) (fun _ _ _ h => h) (Or.inr ⟨by rfl, rfl⟩) hHeld ?_
          try simp only [Act.put, List.setIfInBounds_toArray, List.set_cons_zero, List.set_cons_succ]
          refine wpAnyH_take (i := 18) (oi := { dst := some 28, op := _, type := _, pos := _, after := _, guard := _ }) (v := undef) rfl (by kernel_rfl) (by kernel_rfl) (by kernel_rfl) (fun _ _ _ h => h) (Or.inr ⟨by rfl, rfl⟩) hHeld ?_
          try simp only [Act.put, List.setIfInBounds_toArray, List.set_cons_zero, List.set_cons_succ]
          refine wpAnyH_take (i := 19) (oi := { dst := some 29, op := _, type := _, pos := _, after := _, guard := _ }) (v := undef) rfl (by kernel_rfl) (by kernel_rfl) (by kernel_rfl) (fun _ _ _ h => h) (Or.inr ⟨by rfl, rfl⟩) hHeld ?_
          try simp only [Act.put, List.setIfInBounds_toArray, List.set_cons_zero, List.set_cons_succ]
          refine wpAnyH_take (i := 20) (oi := { dst := some 30, op := _, type := _, pos := _, after := _, guard := _ }) (v := undef) rfl (by kernel_rfl) (by kernel_rfl) (by kernel_rfl) (fun _ _ _ h => h) (Or.inr ⟨by rfl, rfl⟩) hHeld ?_
          try simp only [Act.put, List.setIfInBounds_toArray, List.set_cons_zero, List.set_cons_succ]
          refine wpAnyH_take (i := 21) (oi := { dst := some 31, op := _, type := _, pos := _, after := _, guard := _ }) (v := ?_) rfl (by kernel_rfl) (by kernel_rfl) (by kernel_rfl) (fun _ _ _ h => h) (Or.inl ⟨by rfl, ?_⟩) hHeld ?_
          rotate_left
          · (intro w hSw; obtain ⟨x0, x1, x2⟩ := HX.out _ hSw; go_simp <;> with_reducible rfl)
          try simp only [Act.put, List.setIfInBounds_toArray, List.set_cons_zero, List.set_cons_succ]
          refine wpAnyH_take (i := 22) (oi := { dst := some 32, op := _, type := _, pos := _, after := _, guard := _ }) (v := ?_) rfl (by kernel_rfl) (by kernel_rfl) (by kernel_rfl) (fun _ _ _ h => h) (Or.inl ⟨by rfl, ?_⟩) hHeld ?_
          rotate_left
          · (intro w hSw; obtain ⟨x0, x1, x2⟩ := HX.out _ hSw; go_simp <;> with_reducible rfl)
          try simp only [Act.put, List.setIfInBounds_toArray, List.set_cons_zero, List.set_cons_succ]
          refine wpAnyH_done (by kernel_rfl) ?_ _
          have hB2 := hB.trans (hHeld.mono hB.size)
          go_wp2_with fail
          go_roundw
          case rel => exact ⟨k + 1, by omega, by go_num, HN1.out, HN2.out, hB2⟩
          case measure => simp [intOf]; omega
        · obtain ⟨j, rfl⟩ : ∃ j, k = j + 1 := ⟨k - 1, by omega⟩
          obtain ⟨b', o', e, _, hg'⟩ := (hs.below hB).lt (k := j) (by omega)
          injection e with e
          injection e with e1 e2 e3
          subst e1; subst e2
          have hj1 : IntKind.i64.wrap (j : Int) = (j : Int) := IntWalk.i64_in _ (by omega)
          have hj2 : (0 : Int) ≤ (j : Int) := by omega
          have hj3 : (j : Int) < (l.length : Int) := by omega
          have hj4 : (0 : Int) ≤ ((j + 1 : Nat) : Int) := by omega
          have hj5 : (0 : Int) ≤ (j : Int) + 1 := by omega
          have hj6 : (j : Int) + 1 < (l.length : Int) := by omega
          have hj7 : (0 : Int) < (j : Int) + 1 := by omega
          have HXU : Hid (∀ V, Below wr.heap.size wr V → l[j + 1].at V b (o + (j + 1) * 3) ∧ (l[j]'(by omega)).at V b (o + j * 3)) := Lib.hid fun V hV => ⟨Lt.at_keep (w := wr) hg fun i => hV.cell (p := ⟨b, i, none⟩) hbw, Lt.at_keep (w := wr) hg' fun i => hV.cell (p := ⟨b, i, none⟩) hbw⟩
          have HX := HXU
          have HL := Lib.hid (fun V => rless_any (l[j]'(by omega)) l[j + 1] V)
          clear HXU hg hg'
          cases ha : ahL (l[j]'(by omega)) l[j + 1] with
          | true =>
            have HN2 : Hid (∀ i, (hi : i + 1 < l.length) → i + 1 < j + 1 + 1 → ahL (l[i]'(by omega)) l[i + 1] = true) := Lib.hid (fun i hi h => by
              rcases Nat.lt_or_ge i j with h' | h'
              · exact hri i hi (by omega)
              · obtain rfl : i = j := by omega
                exact ha)
            rw [ha] at HL
            clear hri ha
            generalize l[j + 1] = x at *
            obtain ⟨y, hy⟩ : ∃ y, (l[j]'(by omega)) = y := ⟨_, rfl⟩
            rw [hy] at HX HL
            clear hy
            unfold Lt.at at HX
            unfold Lt.val at HF HL
            go_wp2_with fail
            refine wp_region_held_drew (S := (fun V => Below wr.heap.size wr V)) (by kernel_rfl) (by exact (Below.refl _ _).drew) (fun hHeld => ?_)
            refine wpAnyH_take (i := 0) (oi := { dst := some 10, op := _, type := _, pos := _, after := _, guard := _ }) (v := ?_) rfl (by kernel_rfl) (by kernel_rfl) (by kernel_rfl) (fun _ _ _ h => h) (Or.inl ⟨by rfl, ?_⟩) hHeld ?_
            rotate_left
            · (intro w hSw; obtain ⟨⟨x0, x1, x2⟩, y0, y1, y2⟩ := HX.out _ hSw; go_simp <;> with_reducible rfl)
            try simp only [Act.put, List.setIfInBounds_toArray, List.set_cons_zero, List.set_cons_succ]
            refine wpAnyH_take (i := 1) (oi := { dst := some 11, op := _, type := _, pos := _, after := _, guard := _ }) (v := ?_) rfl (by kernel_rfl) (by kernel_rfl) (by kernel_rfl) (fun _ _ _ h => h) (Or.inl ⟨by rfl, ?_⟩) hHeld ?_
            rotate_left
            · (intro w hSw; obtain ⟨⟨x0, x1, x2⟩, y0, y1, y2⟩ := HX.out _ hSw; go_simp <;> with_reducible rfl)
            try simp only [Act.put, List.setIfInBounds_toArray, List.set_cons_zero, List.set_cons_succ]
            refine wpAnyH_take (i := 2) (oi := { dst := some 12, op := _, type := _, pos := _, after := _, guard := _ }) (v := ?_) rfl (by kernel_rfl) (by kernel_rfl) (by kernel_rfl) (fun _ _ _ h => h) (Or.inl ⟨by rfl, ?_⟩) hHeld ?_
            rotate_left
            · (intro w hSw; obtain ⟨⟨x0, x1, x2⟩, y0, y1, y2⟩ := HX.out _ hSw; go_simp <;> with_reducible rfl)
            try simp only [Act.put, List.setIfInBounds_toArray, List.set_cons_zero, List.set_cons_succ]
            refine wpAnyH_take (i := 3) (oi := { dst := some 13, op := _, type := _, pos := _, after := _, guard := _ }) (v := ?_) rfl (by kernel_rfl) (by kernel_rfl) (by kernel_rfl) (fun _ _ _ h => h) (Or.inl ⟨by rfl, ?_⟩) hHeld ?_
            rotate_left
            · (intro w hSw; obtain ⟨⟨x0, x1, x2⟩, y0, y1, y2⟩ := HX.out _ hSw; go_simp <;> with_reducible rfl)
            try simp only [Act.put, List.setIfInBounds_toArray, List.set_cons_zero, List.set_cons_succ]
            refine wpAnyH_ready (rs := [4]) (by kernel_rfl) (by simp) ?_
            refine AllReadyH.cons (o := { dst := some 14, op := _, type := _, pos := _, after := _, guard := _ }) rfl (fun K hK => ?_) AllReadyH.nil
            go_simp
            refine (HF.out _).mono ?_
            rintro e y4 ⟨rfl, hk4⟩
            have hKeep := since_step hHeld hk4
            go_wp2_with fail
            refine hK.out _ _ (by (try dsimp only); exact hKeep) (fun hHeld => ?_)
            clear hK K hKeep
            try simp only [Act.put, List.setIfInBounds_toArray, List.set_cons_zero, List.set_cons_succ]
            refine wpAnyH_take (i := 5) (oi := { dst := some 15, op := _, type := _, pos := _, after := _, guard := _ }) (v := ?_) rfl (by kernel_rfl) (by kernel_rfl) (by kernel_rfl) (fun _ _ _ h => h) (Or.inl ⟨by rfl, ?_⟩) hHeld ?_
            rotate_left
            · (intro w hSw; obtain ⟨⟨x0, x1, x2⟩, y0, y1, y2⟩ := HX.out _ hSw; go_simp <;> with_reducible rfl)
            try simp only [Act.put, List.setIfInBounds_toArray, List.set_cons_zero, List.set_cons_succ]
            refine wpAnyH_take (i := 6) (oi := { dst := some 16, op := _, type := _, pos := _, after := _, guard := _ }) (v := ?_) rfl (by kernel_rfl) (by kernel_rfl) (by kernel_rfl) (fun _ _ _ h => h) (Or.inl ⟨by rfl, ?_⟩) hHeld ?_
            rotate_left
            · (intro w hSw; obtain ⟨⟨x0, x1, x2⟩, y0, y1, y2⟩ := HX.out _ hSw; go_simp <;> with_reducible rfl)
            try simp only [Act.put, List.setIfInBounds_toArray, List.set_cons_zero, List.set_cons_succ]
            refine wpAnyH_take (i := 7) (oi := { dst := some 17, op := _, type := _, pos := _, after := _, guard := _ }) (v := ?_) rfl (by kernel_rfl) (by kernel_rfl) (by kernel_rfl) (fun _ _ _ h => h) (Or.inl ⟨by rfl, ?_⟩) hHeld ?_
            rotate_left
            · (intro w hSw; obtain ⟨⟨x0, x1, x2⟩, y0, y1, y2⟩ := HX.out _ hSw; go_simp <;> with_reducible rfl)
            try simp only [Act.put, List.setIfInBounds_toArray, List.set_cons_zero, List.set_cons_succ]
            refine wpAnyH_take (i := 8) (oi := { dst := some 18, op := _, type := _, pos := _, after := _, guard := _ }) (v := ?_) rfl (by kernel_rfl) (by kernel_rfl) (by kernel_rfl) (fun _ _ _ h => h) (Or.inl ⟨by rfl, ?_⟩) hHeld ?_
            rotate_left
            · (intro w hSw; obtain ⟨⟨x0, x1, x2⟩, y0, y1, y2⟩ := HX.out _ hSw; go_simp <;> with_reducible rfl)
            try simp only [Act.put, List.setIfInBounds_toArray, List.set_cons_zero, List.set_cons_succ]
            refine wpAnyH_take (i := 9) (oi := { dst := some 19, op := _, type := _, pos := _, after := _, guard := _ }) (v := ?_) rfl (by kernel_rfl) (by kernel_rfl) (by kernel_rfl) (fun _ _ _ h => h) (Or.inl ⟨by rfl, ?_⟩) hHeld ?_
            rotate_left
            · (intro w hSw; obtain ⟨⟨x0, x1, x2⟩, y0, y1, y2⟩ := HX.out _ hSw; go_simp <;> with_reducible rfl)
            try simp only [Act.put, List.setIfInBounds_toArray, List.set_cons_zero, List.set_cons_succ]
            refine wpAnyH_take (i := 10) (oi := { dst := some 20, op := _, type := _, pos := _, after := _, guard := _ }) (v := ?_) rfl (by kernel_rfl) (by kernel_rfl) (by kernel_rfl) (fun _ _ _ h => h) (Or.inl ⟨by rfl, ?_⟩) hHeld ?_
            rotate_left
            · (intro w hSw; obtain ⟨⟨x0, x1, x2⟩, y0, y1, y2⟩ := HX.out _ hSw; go_simp <;> with_reducible rfl)
            try simp only [Act.put, List.setIfInBounds_toArray, List.set_cons_zero, List.set_cons_succ]
            refine wpAnyH_take (i := 11) (oi := { dst := some 21, op := _, type := _, pos := _, after := _, guard := _ }) (v := ?_) rfl (by kernel_rfl) (by kernel_rfl) (by kernel_rfl) (fun _ _ _ h => h) (Or.inl ⟨by rfl, ?_⟩) hHeld ?_
            rotate_left
            · (intro w hSw; obtain ⟨⟨x0, x1, x2⟩, y0, y1, y2⟩ := HX.out _ hSw; go_simp <;> with_reducible rfl)
            try simp only [Act.put, List.setIfInBounds_toArray, List.set_cons_zero, List.set_cons_succ]
            refine wpAnyH_take (i := 12) (oi := { dst := some 22, op := _, type := _, pos := _, after := _, guard := _ }) (v := ?_) rfl (by kernel_rfl) (by kernel_rfl) (by kernel_rfl) (fun _ _ _ h => h) (Or.inl ⟨by rfl, ?_⟩) hHeld ?_
            rotate_left
            · (intro w hSw; obtain ⟨⟨x0, x1, x2⟩, y0, y1, y2⟩ := HX.out _ hSw; go_simp <;> with_reducible rfl)
            try simp only [Act.put, List.setIfInBounds_toArray, List.set_cons_zero, List.set_cons_succ]
            refine wpAnyH_take (i := 13) (oi := { dst := some 23, op := _, type := _, pos := _, after := _, guard := _ }) (v := ?_) rfl (by kernel_rfl) (by kernel_rfl) (by kernel_rfl) (fun _ _ _ h => h) (Or.inl ⟨by rfl, ?_⟩) hHeld ?_
            rotate_left
            · (intro w hSw; obtain ⟨⟨x0, x1, x2⟩, y0, y1, y2⟩ := HX.out _ hSw; go_simp <;> with_reducible rfl)
            try simp only [Act.put, List.setIfInBounds_toArray, List.set_cons_zero, List.set_cons_succ]
            refine wpAnyH_take (i := 14) (oi := { dst := some 24, op := _, type := _, pos := _, after := _, guard := _ }) (v := ?_) rfl (by kernel_rfl) (by kernel_rfl) (by kernel_rfl) (fun _ _ _ h => h) (Or.inl ⟨by rfl, ?_⟩) hHeld ?_
            rotate_left
            · (intro w hSw; obtain ⟨⟨x0, x1, x2⟩, y0, y1, y2⟩ := HX.out _ hSw; go_simp <;> with_reducible rfl)
            try simp only [Act.put, List.setIfInBounds_toArray, List.set_cons_zero, List.set_cons_succ]
            refine wpAnyH_take (i := 15) (oi := { dst := some 25, op := _, type := _, pos := _, after := _, guard := _ }) (v := ?_) rfl (by kernel_rfl) (by kernel_rfl) (by kernel_rfl) (fun _ _ _ h => h) (Or.inl ⟨by rfl, ?_⟩) hHeld ?_
            rotate_left
            · (intro w hSw; obtain ⟨⟨x0, x1, x2⟩, y0, y1, y2⟩ := HX.out _ hSw; go_simp <;> with_reducible rfl)
            try simp only [Act.put, List.setIfInBounds_toArray, List.set_cons_zero, List.set_cons_succ]
            refine wpAnyH_take (i := 16) (oi := { dst := some 26, op := _, type := _, pos := _, after := _, guard := _ }) (v := ?_) rfl (by kernel_rfl) (by kernel_rfl) (by kernel_rfl) (fun _ _ _ h => h) (Or.inl ⟨by rfl, ?_⟩) hHeld ?_
            rotate_left
            · (intro w hSw; obtain ⟨⟨x0, x1, x2⟩, y0, y1, y2⟩ := HX.out _ hSw; go_simp <;> with_reducible rfl)
            try simp only [Act.put, List.setIfInBounds_toArray, List.set_cons_zero, List.set_cons_succ]
            refine wpAnyH_take (i := 17) (oi := { dst := some 27, op := _, type := _, pos := _, after := _, guard := _ }) (v := ?_) rfl (by kernel_rfl) (by kernel_rfl) (by kernel_rfl) (fun _ _ _ h => h) (Or.inl ⟨by rfl, ?_⟩) hHeld ?_
            rotate_left
            · (intro w hSw; obtain ⟨⟨x0, x1, x2⟩, y0, y1, y2⟩ := HX.out _ hSw; go_simp <;> with_reducible rfl)
            try simp only [Act.put, List.setIfInBounds_toArray, List.set_cons_zero, List.set_cons_succ]
            refine wpAnyH_take (i := 18) (oi := { dst := some 28, op := _, type := _, pos := _, after := _, guard := _ }) (v := ?_) rfl (by kernel_rfl) (by kernel_rfl) (by kernel_rfl) (fun _ _ _ h => h) (Or.inl ⟨by rfl, ?_⟩) hHeld ?_
            rotate_left
            · (intro w hSw; obtain ⟨⟨x0, x1, x2⟩, y0, y1, y2⟩ := HX.out _ hSw; go_simp <;> with_reducible rfl)
            try simp only [Act.put, List.setIfInBounds_toArray, List.set_cons_zero, List.set_cons_succ]
            refine wpAnyH_ready (rs := [19]) (by kernel_rfl) (by simp) ?_
            refine AllReadyH.cons (o := { dst := some 29, op := _, type := _, pos := _, after := _, guard := _ }) rfl (fun K hK => ?_) AllReadyH.nil
            go_simp
            refine (HL.out _).mono ?_
            rintro e y19 ⟨rfl, hk19⟩
            have hKeep := since_step hHeld hk19
            go_wp2_with fail
            refine hK.out _ _ (by (try dsimp only); exact hKeep) (fun hHeld => ?_)
            clear hK K hKeep
            try simp only [Act.put, List.setIfInBounds_toArray, List.set_cons_zero, List.set_cons_succ]
            refine wpAnyH_take (i := 20) (oi := { dst := some 30, op := _, type := _, pos := _, after := _, guard := _ }) (v := ?_) rfl (by kernel_rfl) (by kernel_rfl) (by kernel_rfl) (fun _ _ _ h => h) (Or.inl ⟨by rfl, ?_⟩) hHeld ?_
            rotate_left
            · (intro w hSw; obtain ⟨⟨x0, x1, x2⟩, y0, y1, y2⟩ := HX.out _ hSw; go_simp <;> with_reducible rfl)
            try simp only [Act.put, List.setIfInBounds_toArray, List.set_cons_zero, List.set_cons_succ]
            refine wpAnyH_take (i := 21) (oi := { dst := some 31, op := _, type := _, pos := _, after := _, guard := _ }) (v := ?_) rfl (by kernel_rfl) (by kernel_rfl) (by kernel_rfl) (fun _ _ _ h => h) (Or.inl ⟨by rfl, ?_⟩) hHeld ?_
            rotate_left
            · (intro w hSw; obtain ⟨⟨x0, x1, x2⟩, y0, y1, y2⟩ := HX.out _ hSw; go_simp <;> with_reducible rfl)
            try simp only [Act.put, List.setIfInBounds_toArray, List.set_cons_zero, List.set_cons_succ]
            refine wpAnyH_take (i := 22) (oi := { dst := some 32, op := _, type := _, pos := _, after := _, guard := _ }) (v := ?_) rfl (by kernel_rfl) (by kernel_rfl) (by kernel_rfl) (fun _ _ _ h => h) (Or.inl ⟨by rfl, ?_⟩) hHeld ?_
            rotate_left
            · (intro w hSw; obtain ⟨⟨x0, x1, x2⟩, y0, y1, y2⟩ := HX.out _ hSw; go_simp <;> with_reducible rfl)
            try simp only [Act.put, List.setIfInBounds_toArray, List.set_cons_zero, List.set_cons_succ]
            refine wpAnyH_done (by kernel_rfl) ?_ _
            have hB2 := hB.trans (hHeld.mono hB.size)
            go_wp2_with fail
            go_roundw
            case rel => exact ⟨j + 1 + 1, by omega, by go_num, HN1.out, HN2.out, hB2⟩
            case measure => simp [intOf]; omega
          | false =>
            have HE : Hid (isLs l = false) := Lib.hid (isLs_low hlt ha)
            rw [ha] at HL
            clear hri ha HN1
            generalize l[j + 1] = x at *
            obtain ⟨y, hy⟩ : ∃ y, (l[j]'(by omega)) = y := ⟨_, rfl⟩
            rw [hy] at HX HL
            clear hy
            unfold Lt.at at HX
            unfold Lt.val at HF HL
            go_wp2_with fail
            refine wp_region_held_drew (S := (fun V => Below wr.heap.size wr V)) (by kernel_rfl) (by exact (Below.refl _ _).drew) (fun hHeld => ?_)
            refine wpAnyH_take (i := 0) (oi := { dst := some 10, op := _, type := _, pos := _, after := _, guard := _ }) (v := ?_) rfl (by kernel_rfl) (by kernel_rfl) (by kernel_rfl) (fun _ _ _ h => h) (Or.inl ⟨by rfl, ?_⟩) hHeld ?_
            rotate_left
            · (intro w hSw; obtain ⟨⟨x0, x1, x2⟩, y0, y1, y2⟩ := HX.out _ hSw; go_simp <;> with_reducible rfl)
            try simp only [Act.put, List.setIfInBounds_toArray, List.set_cons_zero, List.set_cons_succ]
            refine wpAnyH_take (i := 1) (oi := { dst := some 11, op := _, type := _, pos := _, after := _, guard := _ }) (v := ?_) rfl (by kernel_rfl) (by kernel_rfl) (by kernel_rfl) (fun _ _ _ h => h) (Or.inl ⟨by rfl, ?_⟩) hHeld ?_
            rotate_left
            · (intro w hSw; obtain ⟨⟨x0, x1, x2⟩, y0, y1, y2⟩ := HX.out _ hSw; go_simp <;> with_reducible rfl)
            try simp only [Act.put, List.setIfInBounds_toArray, List.set_cons_zero, List.set_cons_succ]
            refine wpAnyH_take (i := 2) (oi := { dst := some 12, op := _, type := _, pos := _, after := _, guard := _ }) (v := ?_) rfl (by kernel_rfl) (by kernel_rfl) (by kernel_rfl) (fun _ _ _ h => h) (Or.inl ⟨by rfl, ?_⟩) hHeld ?_
            rotate_left
            · (intro w hSw; obtain ⟨⟨x0, x1, x2⟩, y0, y1, y2⟩ := HX.out _ hSw; go_simp <;> with_reducible rfl)
            try simp only [Act.put, List.setIfInBounds_toArray, List.set_cons_zero, List.set_cons_succ]
            refine wpAnyH_take (i := 3) (oi := { dst := some 13, op := _, type := _, pos := _, after := _, guard := _ }) (v := ?_) rfl (by kernel_rfl) (by kernel_rfl) (by kernel_rfl) (fun _ _ _ h => h) (Or.inl ⟨by rfl, ?_⟩) hHeld ?_
            rotate_left
            · (intro w hSw; obtain ⟨⟨x0, x1, x2⟩, y0, y1, y2⟩ := HX.out _ hSw; go_simp <;> with_reducible rfl)
            try simp only [Act.put, List.setIfInBounds_toArray, List.set_cons_zero, List.set_cons_succ]
            refine wpAnyH_ready (rs := [4]) (by kernel_rfl) (by simp) ?_
            refine AllReadyH.cons (o := { dst := some 14, op := _, type := _, pos := _, after := _, guard := _ }) rfl (fun K hK => ?_) AllReadyH.nil
            go_simp
            refine (HF.out _).mono ?_
            rintro e y4 ⟨rfl, hk4⟩
            have hKeep := since_step hHeld hk4
            go_wp2_with fail
            refine hK.out _ _ (by (try dsimp only); exact hKeep) (fun hHeld => ?_)
            clear hK K hKeep
            try simp only [Act.put, List.setIfInBounds_toArray, List.set_cons_zero, List.set_cons_succ]
            refine wpAnyH_take (i := 5) (oi := { dst := some 15, op := _, type := _, pos := _, after := _, guard := _ }) (v := ?_) rfl (by kernel_rfl) (by kernel_rfl) (by kernel_rfl) (fun _ _ _ h => h) (Or.inl ⟨by rfl, ?_⟩) hHeld ?_
            rotate_left
            · (intro w hSw; obtain ⟨⟨x0, x1, x2⟩, y0, y1, y2⟩ := HX.out _ hSw; go_simp <;> with_reducible rfl)
            try simp only [Act.put, List.setIfInBounds_toArray, List.set_cons_zero, List.set_cons_succ]
            refine wpAnyH_take (i := 6) (oi := { dst := some 16, op := _, type := _, pos := _, after := _, guard := _ }) (v := ?_) rfl (by kernel_rfl) (by kernel_rfl) (by kernel_rfl) (fun _ _ _ h => h) (Or.inl ⟨by rfl, ?_⟩) hHeld ?_
            rotate_left
            · (intro w hSw; obtain ⟨⟨x0, x1, x2⟩, y0, y1, y2⟩ := HX.out _ hSw; go_simp <;> with_reducible rfl)
            try simp only [Act.put, List.setIfInBounds_toArray, List.set_cons_zero, List.set_cons_succ]
            refine wpAnyH_take (i := 7) (oi := { dst := some 17, op := _, type := _, pos := _, after := _, guard := _ }) (v := ?_) rfl (by kernel_rfl) (by kernel_rfl) (by kernel_rfl) (fun _ _ _ h => h) (Or.inl ⟨by rfl, ?_⟩) hHeld ?_
            rotate_left
            · (intro w hSw; obtain ⟨⟨x0, x1, x2⟩, y0, y1, y2⟩ := HX.out _ hSw; go_simp <;> with_reducible rfl)
            try simp only [Act.put, List.setIfInBounds_toArray, List.set_cons_zero, List.set_cons_succ]
            refine wpAnyH_take (i := 8) (oi := { dst := some 18, op := _, type := _, pos := _, after := _, guard := _ }) (v := ?_) rfl (by kernel_rfl) (by kernel_rfl) (by kernel_rfl) (fun _ _ _ h => h) (Or.inl ⟨by rfl, ?_⟩) hHeld ?_
            rotate_left
            · (intro w hSw; obtain ⟨⟨x0, x1, x2⟩, y0, y1, y2⟩ := HX.out _ hSw; go_simp <;> with_reducible rfl)
            try simp only [Act.put, List.setIfInBounds_toArray, List.set_cons_zero, List.set_cons_succ]
            refine wpAnyH_take (i := 9) (oi := { dst := some 19, op := _, type := _, pos := _, after := _, guard := _ }) (v := ?_) rfl (by kernel_rfl) (by kernel_rfl) (by kernel_rfl) (fun _ _ _ h => h) (Or.inl ⟨by rfl, ?_⟩) hHeld ?_
            rotate_left
            · (intro w hSw; obtain ⟨⟨x0, x1, x2⟩, y0, y1, y2⟩ := HX.out _ hSw; go_simp <;> with_reducible rfl)
            try simp only [Act.put, List.setIfInBounds_toArray, List.set_cons_zero, List.set_cons_succ]
            refine wpAnyH_take (i := 10) (oi := { dst := some 20, op := _, type := _, pos := _, after := _, guard := _ }) (v := ?_) rfl (by kernel_rfl) (by kernel_rfl) (by kernel_rfl) (fun _ _ _ h => h) (Or.inl ⟨by rfl, ?_⟩) hHeld ?_
            rotate_left
            · (intro w hSw; obtain ⟨⟨x0, x1, x2⟩, y0, y1, y2⟩ := HX.out _ hSw; go_simp <;> with_reducible rfl)
            try simp only [Act.put, List.setIfInBounds_toArray, List.set_cons_zero, List.set_cons_succ]
            refine wpAnyH_take (i := 11) (oi := { dst := some 21, op := _, type := _, pos := _, after := _, guard := _ }) (v := ?_) rfl (by kernel_rfl) (by kernel_rfl) (by kernel_rfl) (fun _ _ _ h => h) (Or.inl ⟨by rfl, ?_⟩) hHeld ?_
            rotate_left
            · (intro w hSw; obtain ⟨⟨x0, x1, x2⟩, y0, y1, y2⟩ := HX.out _ hSw; go_simp <;> with_reducible rfl)
            try simp only [Act.put, List.setIfInBounds_toArray, List.set_cons_zero, List.set_cons_succ]
            refine wpAnyH_take (i := 12) (oi := { dst := some 22, op := _, type := _, pos := _, after := _, guard := _ }) (v := ?_) rfl (by kernel_rfl) (by kernel_rfl) (by kernel_rfl) (fun _ _ _ h => h) (Or.inl ⟨by rfl, ?_⟩) hHeld ?_
            rotate_left
            · (intro w hSw; obtain ⟨⟨x0, x1, x2⟩, y0, y1, y2⟩ := HX.out _ hSw; go_simp <;> with_reducible rfl)
            try simp only [Act.put, List.setIfInBounds_toArray, List.set_cons_zero, List.set_cons_succ]
            refine wpAnyH_take (i := 13) (oi := { dst := some 23, op := _, type := _, pos := _, after := _, guard := _ }) (v := ?_) rfl (by kernel_rfl) (by kernel_rfl) (by kernel_rfl) (fun _ _ _ h => h) (Or.inl ⟨by rfl, ?_⟩) hHeld ?_
            rotate_left
            · (intro w hSw; obtain ⟨⟨x0, x1, x2⟩, y0, y1, y2⟩ := HX.out _ hSw; go_simp <;> with_reducible rfl)
            try simp only [Act.put, List.setIfInBounds_toArray, List.set_cons_zero, List.set_cons_succ]
            refine wpAnyH_take (i := 14) (oi := { dst := some 24, op := _, type := _, pos := _, after := _, guard := _ }) (v := ?_) rfl (by kernel_rfl) (by kernel_rfl) (by kernel_rfl) (fun _ _ _ h => h) (Or.inl ⟨by rfl, ?_⟩) hHeld ?_
            rotate_left
            · (intro w hSw; obtain ⟨⟨x0, x1, x2⟩, y0, y1, y2⟩ := HX.out _ hSw; go_simp <;> with_reducible rfl)
            try simp only [Act.put, List.setIfInBounds_toArray, List.set_cons_zero, List.set_cons_succ]
            refine wpAnyH_take (i := 15) (oi := { dst := some 25, op := _, type := _, pos := _, after := _, guard := _ }) (v := ?_) rfl (by kernel_rfl) (by kernel_rfl) (by kernel_rfl) (fun _ _ _ h => h) (Or.inl ⟨by rfl, ?_⟩) hHeld ?_
            rotate_left
            · (intro w hSw; obtain ⟨⟨x0, x1, x2⟩, y0, y1, y2⟩ := HX.out _ hSw; go_simp <;> with_reducible rfl)
            try simp only [Act.put, List.setIfInBounds_toArray, List.set_cons_zero, List.set_cons_succ]
            refine wpAnyH_take (i := 16) (oi := { dst := some 26, op := _, type := _, pos := _, after := _, guard := _ }) (v := ?_) rfl (by kernel_rfl) (by kernel_rfl) (by kernel_rfl) (fun _ _ _ h => h) (Or.inl ⟨by rfl, ?_⟩) hHeld ?_
            rotate_left
            · (intro w hSw; obtain ⟨⟨x0, x1, x2⟩, y0, y1, y2⟩ := HX.out _ hSw; go_simp <;> with_reducible rfl)
            try simp only [Act.put, List.setIfInBounds_toArray, List.set_cons_zero, List.set_cons_succ]
            refine wpAnyH_take (i := 17) (oi := { dst := some 27, op := _, type := _, pos := _, after := _, guard := _ }) (v := ?_) rfl (by kernel_rfl) (by kernel_rfl) (by kernel_rfl) (fun _ _ _ h => h) (Or.inl ⟨by rfl, ?_⟩) hHeld ?_
            rotate_left
            · (intro w hSw; obtain ⟨⟨x0, x1, x2⟩, y0, y1, y2⟩ := HX.out _ hSw; go_simp <;> with_reducible rfl)
            try simp only [Act.put, List.setIfInBounds_toArray, List.set_cons_zero, List.set_cons_succ]
            refine wpAnyH_take (i := 18) (oi := { dst := some 28, op := _, type := _, pos := _, after := _, guard := _ }) (v := ?_) rfl (by kernel_rfl) (by kernel_rfl) (by kernel_rfl) (fun _ _ _ h => h) (Or.inl ⟨by rfl, ?_⟩) hHeld ?_
            rotate_left
            · (intro w hSw; obtain ⟨⟨x0, x1, x2⟩, y0, y1, y2⟩ := HX.out _ hSw; go_simp <;> with_reducible rfl)
            try simp only [Act.put, List.setIfInBounds_toArray, List.set_cons_zero, List.set_cons_succ]
            refine wpAnyH_ready (rs := [19]) (by kernel_rfl) (by simp) ?_
            refine AllReadyH.cons (o := { dst := some 29, op := _, type := _, pos := _, after := _, guard := _ }) rfl (fun K hK => ?_) AllReadyH.nil
            go_simp
            refine (HL.out _).mono ?_
            rintro e y19 ⟨rfl, hk19⟩
            have hKeep := since_step hHeld hk19
            go_wp2_with fail
            refine hK.out _ _ (by (try dsimp only); exact hKeep) (fun hHeld => ?_)
            clear hK K hKeep
            try simp only [Act.put, List.setIfInBounds_toArray, List.set_cons_zero, List.set_cons_succ]
            refine wpAnyH_take (i := 20) (oi := { dst := some 30, op := _, type := _, pos := _, after := _, guard := _ }) (v := ?_) rfl (by kernel_rfl) (by kernel_rfl) (by kernel_rfl) (fun _ _ _ h => h) (Or.inl ⟨by rfl, ?_⟩) hHeld ?_
            rotate_left
            · (intro w hSw; obtain ⟨⟨x0, x1, x2⟩, y0, y1, y2⟩ := HX.out _ hSw; go_simp <;> with_reducible rfl)
            try simp only [Act.put, List.setIfInBounds_toArray, List.set_cons_zero, List.set_cons_succ]
            refine wpAnyH_take (i := 21) (oi := { dst := some 31, op := _, type := _, pos := _, after := _, guard := _ }) (v := ?_) rfl (by kernel_rfl) (by kernel_rfl) (by kernel_rfl) (fun _ _ _ h => h) (Or.inl ⟨by rfl, ?_⟩) hHeld ?_
            rotate_left
            · (intro w hSw; obtain ⟨⟨x0, x1, x2⟩, y0, y1, y2⟩ := HX.out _ hSw; go_simp <;> with_reducible rfl)
            try simp only [Act.put, List.setIfInBounds_toArray, List.set_cons_zero, List.set_cons_succ]
            refine wpAnyH_take (i := 22) (oi := { dst := some 32, op := _, type := _, pos := _, after := _, guard := _ }) (v := ?_) rfl (by kernel_rfl) (by kernel_rfl) (by kernel_rfl) (fun _ _ _ h => h) (Or.inl ⟨by rfl, ?_⟩) hHeld ?_
            rotate_left
            · (intro w hSw; obtain ⟨⟨x0, x1, x2⟩, y0, y1, y2⟩ := HX.out _ hSw; go_simp <;> with_reducible rfl)
            try simp only [Act.put, List.setIfInBounds_toArray, List.set_cons_zero, List.set_cons_succ]
            refine wpAnyH_done (by kernel_rfl) ?_ _
            have hB2 := hB.trans (hHeld.mono hB.size)
            go_wp2_with fail
            go_ret
            exact ⟨retB HE.out.symm, hB2⟩
    · obtain rfl : k = l.length := by omega
      have HE : Hid (isLs l = decide ((l.length : Int) ≤ 16)) := Lib.hid (by rw [isLs_end (fun j hj => hno j hj hj) (fun j hj => hri j hj hj)]; simp only [decide_eq_decide]; omega)
      clear hno hri
      go_wp2_with fail
      go_ret
      exact ⟨retB HE.out.symm, hB⟩
end Go.Proofs.Ytldnponbkhgijaa
end
