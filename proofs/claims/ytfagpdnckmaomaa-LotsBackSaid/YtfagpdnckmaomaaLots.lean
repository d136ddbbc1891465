/-
  Layer 18, first part: lots: fit, order, Is of both sides, same, Get of both sides, check (laid by gen_lots.py).
-/
import Derived.Test.YtfagpdnckmaomaaLtV
import Derived.Test.YtfagpdnckmaomaaRowM
namespace Go.Proofs.Ytfagpdnckmaomaa
open Go.ChangeShapes Go.WideShapes Go.ChangeAt Go.RowKit
set_option linter.unusedVariables false
set_option linter.unusedSimpArgs false

def okL (x : Lt) : Bool := decide (1 ≤ x.ast) && decide (x.ast ≤ 4) && decide (0 ≤ x.tag) && decide (x.tag ≤ 255) && decide (0 < x.qty)
def ltL (x y : Lt) : Prop := x.ast < y.ast ∨ (x.ast = y.ast ∧ x.tag < y.tag)
instance (x y : Lt) : Decidable (ltL x y) := by unfold ltL; infer_instance
def ahL (x y : Lt) : Bool := decide (ltL x y)
def isLs (l : List Lt) : Bool := l.all okL && decide (l.length ≤ 16) && risingL ahL l
def sameL (a t : Int) (x : Lt) : Bool := x.ast == a && x.tag == t
def getL (l : List Lt) (a t : Int) : Int := (pickL (sameL a t) Lt.zero l).qty
def chkL (l : List Lt) (x : Lt) : Int := if isLs l = false then 3 else if okL x = false then 2 else 0

set_option maxHeartbeats 2000000 in
set_option maxRecDepth 100000 in
theorem fit_any (x : Lt) (w : World) : Calls Try.prog 86 #[x.val] w fun e w' => e = .returned (.bool (okL x)) ∧ Below w.heap.size w w' := by
  have hB := since_alloc (Below.refl _ w) (.cells x.cells.toArray 74)
  have hways : (x.ast < 1) ∨ (1 ≤ x.ast ∧ 4 < x.ast) ∨ (1 ≤ x.ast ∧ x.ast ≤ 4 ∧ x.tag < 0) ∨ (1 ≤ x.ast ∧ x.ast ≤ 4 ∧ 0 ≤ x.tag ∧ 255 < x.tag) ∨ (1 ≤ x.ast ∧ x.ast ≤ 4 ∧ 0 ≤ x.tag ∧ x.tag ≤ 255 ∧ x.qty ≤ 0) ∨ (1 ≤ x.ast ∧ x.ast ≤ 4 ∧ 0 ≤ x.tag ∧ x.tag ≤ 255 ∧ 0 < x.qty) := by omega
  unfold Lt.val
  unfold Lt.cells at hB
  rcases hways with hw | hw | hw | hw | hw | hw
  · have HE : Hid (okL x = false) := Lib.hid (by simp [okL]; omega)
    have c0 : ¬ (1 ≤ x.ast) := by omega
    have c1 : ¬ (0 < x.ast) := by omega
    clear hw
    go_enter Try.func86, Try.ntmps86
    go_wp2_with fail
    go_ret
    exact ⟨retB HE.out.symm, hB⟩
  · have HE : Hid (okL x = false) := Lib.hid (by simp [okL]; omega)
    have c0 : 1 ≤ x.ast := hw.1
    have c1 : 0 < x.ast := by omega
    have c2 : ¬ x.ast ≤ 4 := by omega
    have c3 : ¬ x.ast < 5 := by omega
    clear hw
    go_enter Try.func86, Try.ntmps86
    go_wp2_with fail
    go_ret
    exact ⟨retB HE.out.symm, hB⟩
  · have HE : Hid (okL x = false) := Lib.hid (by simp [okL]; omega)
    have c0 : 1 ≤ x.ast := hw.1
    have c1 : 0 < x.ast := by omega
    have c2 : x.ast ≤ 4 := by omega
    have c3 : x.ast < 5 := by omega
    have c4 : ¬ 0 ≤ x.tag := by omega
    clear hw
    go_enter Try.func86, Try.ntmps86
    go_wp2_with fail
    go_ret
    exact ⟨retB HE.out.symm, hB⟩
  · have HE : Hid (okL x = false) := Lib.hid (by simp [okL]; omega)
    have c0 : 1 ≤ x.ast := hw.1
    have c1 : 0 < x.ast := by omega
    have c2 : x.ast ≤ 4 := by omega
    have c3 : x.ast < 5 := by omega
    have c4 : 0 ≤ x.tag := by omega
    have c5 : ¬ x.tag ≤ 255 := by omega
    have c6 : ¬ x.tag < 256 := by omega
    clear hw
    go_enter Try.func86, Try.ntmps86
    go_wp2_with fail
    go_ret
    exact ⟨retB HE.out.symm, hB⟩
  · have HE : Hid (okL x = false) := Lib.hid (by simp [okL]; omega)
    have c0 : 1 ≤ x.ast := hw.1
    have c1 : 0 < x.ast := by omega
    have c2 : x.ast ≤ 4 := by omega
    have c3 : x.ast < 5 := by omega
    have c4 : 0 ≤ x.tag := by omega
    have c5 : x.tag ≤ 255 := by omega
    have c6 : x.tag < 256 := by omega
    have c7 : ¬ 0 < x.qty := by omega
    clear hw
    go_enter Try.func86, Try.ntmps86
    go_wp2_with fail
    go_ret
    exact ⟨retB HE.out.symm, hB⟩
  · have HE : Hid (okL x = true) := Lib.hid (by simp [okL]; omega)
    have c0 : 1 ≤ x.ast := hw.1
    have c1 : 0 < x.ast := by omega
    have c2 : x.ast ≤ 4 := by omega
    have c3 : x.ast < 5 := by omega
    have c4 : 0 ≤ x.tag := by omega
    have c5 : x.tag ≤ 255 := by omega
    have c6 : x.tag < 256 := by omega
    have c7 : 0 < x.qty := by omega
    clear hw
    go_enter Try.func86, Try.ntmps86
    go_wp2_with fail
    go_ret
    exact ⟨retB HE.out.symm, hB⟩

set_option maxHeartbeats 2000000 in
set_option maxRecDepth 100000 in
theorem one_any (x : Lt) (w : World) : Calls Try.prog 89 #[x.val] w fun e w' => e = .returned (.bool (okL x)) ∧ Below w.heap.size w w' := by
  have hB := since_alloc (Below.refl _ w) (.cells x.cells.toArray 74)
  have hways : (x.ast < 1) ∨ (1 ≤ x.ast ∧ 4 < x.ast) ∨ (1 ≤ x.ast ∧ x.ast ≤ 4 ∧ x.tag < 0) ∨ (1 ≤ x.ast ∧ x.ast ≤ 4 ∧ 0 ≤ x.tag ∧ 255 < x.tag) ∨ (1 ≤ x.ast ∧ x.ast ≤ 4 ∧ 0 ≤ x.tag ∧ x.tag ≤ 255 ∧ x.qty ≤ 0) ∨ (1 ≤ x.ast ∧ x.ast ≤ 4 ∧ 0 ≤ x.tag ∧ x.tag ≤ 255 ∧ 0 < x.qty) := by omega
  unfold Lt.val
  unfold Lt.cells at hB
  rcases hways with hw | hw | hw | hw | hw | hw
  · have HE : Hid (okL x = false) := Lib.hid (by simp [okL]; omega)
    have c0 : ¬ (1 ≤ x.ast) := by omega
    have c1 : ¬ (0 < x.ast) := by omega
    clear hw
    go_enter Try.func89, Try.ntmps89
    go_wp2_with fail
    go_ret
    exact ⟨retB HE.out.symm, hB⟩
  · have HE : Hid (okL x = false) := Lib.hid (by simp [okL]; omega)
    have c0 : 1 ≤ x.ast := hw.1
    have c1 : 0 < x.ast := by omega
    have c2 : ¬ x.ast ≤ 4 := by omega
    have c3 : ¬ x.ast < 5 := by omega
    clear hw
    go_enter Try.func89, Try.ntmps89
    go_wp2_with fail
    go_ret
    exact ⟨retB HE.out.symm, hB⟩
  · have HE : Hid (okL x = false) := Lib.hid (by simp [okL]; omega)
    have c0 : 1 ≤ x.ast := hw.1
    have c1 : 0 < x.ast := by omega
    have c2 : x.ast ≤ 4 := by omega
    have c3 : x.ast < 5 := by omega
    have c4 : ¬ 0 ≤ x.tag := by omega
    clear hw
    go_enter Try.func89, Try.ntmps89
    go_wp2_with fail
    go_ret
    exact ⟨retB HE.out.symm, hB⟩
  · have HE : Hid (okL x = false) := Lib.hid (by simp [okL]; omega)
    have c0 : 1 ≤ x.ast := hw.1
    have c1 : 0 < x.ast := by omega
    have c2 : x.ast ≤ 4 := by omega
    have c3 : x.ast < 5 := by omega
    have c4 : 0 ≤ x.tag := by omega
    have c5 : ¬ x.tag ≤ 255 := by omega
    have c6 : ¬ x.tag < 256 := by omega
    clear hw
    go_enter Try.func89, Try.ntmps89
    go_wp2_with fail
    go_ret
    exact ⟨retB HE.out.symm, hB⟩
  · have HE : Hid (okL x = false) := Lib.hid (by simp [okL]; omega)
    have c0 : 1 ≤ x.ast := hw.1
    have c1 : 0 < x.ast := by omega
    have c2 : x.ast ≤ 4 := by omega
    have c3 : x.ast < 5 := by omega
    have c4 : 0 ≤ x.tag := by omega
    have c5 : x.tag ≤ 255 := by omega
    have c6 : x.tag < 256 := by omega
    have c7 : ¬ 0 < x.qty := by omega
    clear hw
    go_enter Try.func89, Try.ntmps89
    go_wp2_with fail
    go_ret
    exact ⟨retB HE.out.symm, hB⟩
  · have HE : Hid (okL x = true) := Lib.hid (by simp [okL]; omega)
    have c0 : 1 ≤ x.ast := hw.1
    have c1 : 0 < x.ast := by omega
    have c2 : x.ast ≤ 4 := by omega
    have c3 : x.ast < 5 := by omega
    have c4 : 0 ≤ x.tag := by omega
    have c5 : x.tag ≤ 255 := by omega
    have c6 : x.tag < 256 := by omega
    have c7 : 0 < x.qty := by omega
    clear hw
    go_enter Try.func89, Try.ntmps89
    go_wp2_with fail
    go_ret
    exact ⟨retB HE.out.symm, hB⟩

set_option maxHeartbeats 1000000 in
set_option maxRecDepth 100000 in
theorem lahead_any (x y : Lt) (w : World) : Calls Try.prog 88 #[x.val, y.val] w fun e w' => e = .returned (.bool (ahL x y)) ∧ Below w.heap.size w w' := by
  have hB := since_alloc (since_alloc (Below.refl _ w) (.cells x.cells.toArray 74)) (.cells y.cells.toArray 74)
  obtain ⟨ua, uc, uq⟩ := x
  obtain ⟨va, vc, vq⟩ := y
  unfold Lt.val Lt.cells at *
  simp only at hB ⊢
  by_cases h1 : ua < va
  · have HE : Hid (ahL ⟨ua, uc, uq⟩ ⟨va, vc, vq⟩ = true) := Lib.hid (by simp [ahL, ltL, h1])
    go_enter Try.func88, Try.ntmps88
    go_wp2_with fail
    go_ret
    exact ⟨retB HE.out.symm, hB⟩
  by_cases h2 : ua = va
  · subst h2
    have HE : Hid (ahL ⟨ua, uc, uq⟩ ⟨ua, vc, vq⟩ = decide (uc < vc)) := Lib.hid (by simp [ahL, ltL])
    go_enter Try.func88, Try.ntmps88
    go_wp2_with fail
    go_ret
    exact ⟨retB HE.out.symm, hB⟩
  · have HE : Hid (ahL ⟨ua, uc, uq⟩ ⟨va, vc, vq⟩ = false) := Lib.hid (decide_eq_false (by unfold ltL; simp only; omega))
    have h2b : (ua == va) = false := by simpa using h2
    clear h2
    go_enter Try.func88, Try.ntmps88
    go_wp2_with fail
    go_ret
    exact ⟨retB HE.out.symm, hB⟩

set_option maxHeartbeats 1000000 in
set_option maxRecDepth 100000 in
theorem rless_any (x y : Lt) (w : World) : Calls Try.prog 90 #[x.val, y.val] w fun e w' => e = .returned (.bool (ahL x y)) ∧ Below w.heap.size w w' := by
  have hB := since_alloc (since_alloc (Below.refl _ w) (.cells x.cells.toArray 74)) (.cells y.cells.toArray 74)
  obtain ⟨ua, uc, uq⟩ := x
  obtain ⟨va, vc, vq⟩ := y
  unfold Lt.val Lt.cells at *
  simp only at hB ⊢
  by_cases h1 : ua < va
  · have HE : Hid (ahL ⟨ua, uc, uq⟩ ⟨va, vc, vq⟩ = true) := Lib.hid (by simp [ahL, ltL, h1])
    go_enter Try.func90, Try.ntmps90
    go_wp2_with fail
    go_ret
    exact ⟨retB HE.out.symm, hB⟩
  by_cases h2 : ua = va
  · subst h2
    have HE : Hid (ahL ⟨ua, uc, uq⟩ ⟨ua, vc, vq⟩ = decide (uc < vc)) := Lib.hid (by simp [ahL, ltL])
    go_enter Try.func90, Try.ntmps90
    go_wp2_with fail
    go_ret
    exact ⟨retB HE.out.symm, hB⟩
  · have HE : Hid (ahL ⟨ua, uc, uq⟩ ⟨va, vc, vq⟩ = false) := Lib.hid (decide_eq_false (by unfold ltL; simp only; omega))
    have h2b : (ua == va) = false := by simpa using h2
    clear h2
    go_enter Try.func90, Try.ntmps90
    go_wp2_with fail
    go_ret
    exact ⟨retB HE.out.symm, hB⟩

theorem ent_lahead : Ent Try.prog 88 := Ent.of (by kernel_rfl)
theorem tells_lahead (B : Nat) (w : World) : Lt.Tells2 88 #[] ahL B w := fun a b W _ => lahead_any a b W

theorem isLs_bad {l : List Lt} {k : Nat} (h : k < l.length) (hb : okL l[k] = false) : isLs l = false := by
  unfold isLs
  have : l.all okL = false := by
    rw [← Bool.not_eq_true, List.all_eq_true]
    intro ha
    rw [ha _ (List.getElem_mem h)] at hb
    cases hb
  rw [this]; simp
theorem all_ok {l : List Lt} (h : ∀ j, (hj : j < l.length) → okL l[j] = true) : l.all okL = true := by
  rw [List.all_eq_true]
  intro x hx
  obtain ⟨j, hj, rfl⟩ := List.getElem_of_mem hx
  exact h j hj
set_option maxHeartbeats 4000000 in
set_option maxRecDepth 100000 in
theorem lis_any (A : Option Addr) (cap : Nat) (l : List Lt) (w : World) (hl : l.length ≤ 1000000) (hs : Sl w A (rc Lt.cells l)) :
    Calls Try.prog 45 #[.slice A l.length cap] w fun e w' => e = .returned (.bool (isLs l)) ∧ Below w.heap.size w w' := by
  go_enter Try.func45, Try.ntmps45
  go_wp2_with fail
  go_loopw [7] (fun i wr => ∃ k : Nat, k ≤ l.length ∧ i = .int .i64 k ∧ (∀ j, (hj : j < l.length) → j < k → okL l[j] = true) ∧ Below w.heap.size w wr) (fun i _ => l.length - (intOf i).toNat)
  case atStart => exact ⟨0, by omega, rfl, fun j hj h => absurd h (by omega), Below.refl _ _⟩
  case round =>
    obtain ⟨k, hk, rfl, hno, hB⟩ := hrel
    by_cases hlt : k < l.length
    · obtain ⟨b, o, rfl, hbw, hg⟩ := (hs.below hB).lt hlt
      have hlk : (k : Int) < (l.length : Int) := by omega
      have HF := Lib.hid (fun V => fit_any l[k] V)
      have hA := since_alloc hB (.cells l[k].cells.toArray 74)
      have HNX : Hid (okL l[k] = true → ∀ j, (hj : j < l.length) → j < k + 1 → okL l[j] = true) := Lib.hid (fun h j hj hjk => by
        rcases Nat.lt_or_ge j k with h' | h'
        · exact hno j hj h'
        · obtain rfl : j = k := by omega
          exact h)
      have HBD : Hid (okL l[k] = false → isLs l = false) := Lib.hid (fun h => isLs_bad hlt h)
      clear hno
      generalize l[k] = v at *
      obtain ⟨g0, g1, g2⟩ := hg
      unfold Lt.val at HF
      unfold Lt.cells at hA
      cases hq : okL v with
      | true =>
        rw [hq] at HF
        have HN := Lib.hid (HNX.out hq)
        clear HBD HNX hq
        go_wp2_with fail
        refine (HF.out _).mono ?_
        rintro e w1 ⟨rfl, hb⟩
        have hB1 := since_step hA hb
        go_wp2_with fail
        go_roundw
        case rel => exact ⟨k + 1, by omega, by go_num, HN.out, hB1⟩
        case measure => simp [intOf]; omega
      | false =>
        rw [hq] at HF
        have HE := Lib.hid (HBD.out hq)
        clear HBD HNX hq
        go_wp2_with fail
        refine (HF.out _).mono ?_
        rintro e w1 ⟨rfl, hb⟩
        have hB1 := since_step hA hb
        go_wp2_with fail
        go_ret
        exact ⟨retB HE.out.symm, hB1⟩
    · obtain rfl : k = l.length := by omega
      have ha := all_ok fun j hj => hno j hj hj
      clear hno
      by_cases h16 : l.length ≤ 16
      · have HE : Hid (isLs l = risingL ahL l) := Lib.hid (by unfold isLs; rw [ha]; simp [h16])
        have h16i : (l.length : Int) ≤ 16 := by omega
        have hs2 := hs.below hB
        clear ha
        go_wp2_with fail
        refine (rising_lt A cap l 88 #[] ahL _ hl hs2 ent_lahead (tells_lahead _ _)).mono ?_
        rintro e w1 ⟨rfl, hb⟩
        have hB1 := since_step hB hb
        go_wp2_with fail
        go_ret
        exact ⟨retB HE.out.symm, hB1⟩
      · have HE : Hid (isLs l = false) := Lib.hid (by unfold isLs; simp [h16])
        have h16i : ¬ (l.length : Int) ≤ 16 := by omega
        clear ha
        go_wp2_with fail
        go_ret
        exact ⟨retB HE.out.symm, hB⟩

set_option maxHeartbeats 1000000 in
set_option maxRecDepth 100000 in
theorem same1_any (x z : Lt) (b : Nat) (w : World) (hb : Lt.Bx w b z) :
    Calls Try.prog 119 #[x.val, .pointer (some ⟨b, 0, none⟩)] w fun e w' => e = .returned (.bool (sameL z.ast z.tag x)) ∧ Below w.heap.size w w' := by
  have hB := since_alloc (Below.refl _ w) (.cells x.cells.toArray 74)
  obtain ⟨z0, z1, z2⟩ := hb.got
  have hlt := hb.lt
  obtain ⟨xa, xt, xq⟩ := x
  unfold Lt.val Lt.cells at *
  simp only at hB ⊢
  by_cases h1 : xa = z.ast
  · subst h1
    have HE : Hid (sameL z.ast z.tag ⟨z.ast, xt, xq⟩ = (xt == z.tag)) := Lib.hid (by simp [sameL])
    go_enter Try.func119, Try.ntmps119
    go_wp2_with fail
    go_ret
    exact ⟨retB HE.out.symm, hB⟩
  · have HE : Hid (sameL z.ast z.tag ⟨xa, xt, xq⟩ = false) := Lib.hid (by simp [sameL, h1])
    have h1b : (xa == z.ast) = false := by simpa using h1
    clear h1
    go_enter Try.func119, Try.ntmps119
    go_wp2_with fail
    go_ret
    exact ⟨retB HE.out.symm, hB⟩
theorem ent_same1 : Ent Try.prog 119 := Ent.of (by kernel_rfl)
theorem tells_same1 (z : Lt) (b : Nat) (w : World) (h : Lt.Bx w b z) : Lt.Tells 119 #[.pointer (some ⟨b, 0, none⟩)] (sameL z.ast z.tag) w.heap.size w :=
  fun x W hW => same1_any x z b W (h.below hW)
set_option maxHeartbeats 1000000 in
set_option maxRecDepth 100000 in
theorem lsame_any (z : Lt) (w : World) :
    Calls Try.prog 92 #[z.val] w fun e w' => (∃ b, e = .returned (.func (.func 119) #[] #[.pointer (some ⟨b, 0, none⟩)]) ∧ Lt.Bx w' b z) ∧ Below w.heap.size w w' := by
  have hB := since_alloc (Below.refl _ w) (.cells z.cells.toArray 74)
  have hV := Lt.Bx.new w z
  unfold Lt.val
  go_enter Try.func92, Try.ntmps92
  go_wp2_with fail
  go_ret
  exact ⟨⟨_, rfl, hV⟩, hB⟩
set_option maxHeartbeats 1000000 in
set_option maxRecDepth 100000 in
theorem lget_any (A : Option Addr) (cap : Nat) (l : List Lt) (a t : Int) (w : World) (hl : l.length ≤ 1000000) (hs : Sl w A (rc Lt.cells l)) :
    Calls Try.prog 47 #[.slice A l.length cap, .int .i64 a, .int .i64 t] w fun e w' => e = .returned (.int .i64 (getL l a t)) ∧ Below w.heap.size w w' := by
  have HS := lsame_any ⟨a, t, 0⟩ w
  unfold Lt.val at HS
  simp only at HS
  go_enter Try.func47, Try.ntmps47
  go_wp2_with fail
  refine HS.mono ?_
  rintro e w1 ⟨⟨b, rfl, hz⟩, hb1⟩
  have hs1 := hs.below hb1
  clear hs
  go_wp2_with fail
  refine (find_lt A cap l 119 #[.pointer (some ⟨b, 0, none⟩)] (sameL a t) _ hl hs1 ent_same1 (tells_same1 ⟨a, t, 0⟩ b _ hz)).mono ?_
  rintro e w2 ⟨rfl, hb2⟩
  have e1 : (pickL (sameL a t) Lt.zero l).qty = getL l a t := rfl
  have HE := Lib.hid e1
  generalize pickL (sameL a t) Lt.zero l = g at *
  clear e1
  have hB2 := since_alloc (since_step hb1 hb2) (.cells #[.int .i64 g.ast, .int .i64 g.tag, .int .i64 g.qty] 74)
  unfold Lt.val
  go_wp2_with fail
  go_ret
  exact ⟨retI HE.out, hB2⟩

set_option maxHeartbeats 2000000 in
set_option maxRecDepth 100000 in
theorem rlget_any (A : Option Addr) (cap : Nat) (l : List Lt) (a t : Int) (w : World) (hl : l.length ≤ 1000000) (hs : Sl w A (rc Lt.cells l)) :
    Calls Try.prog 48 #[.slice A l.length cap, .int .i64 a, .int .i64 t] w fun e w' => e = .returned (.int .i64 (getL l a t)) ∧ Below w.heap.size w w' := by
  go_enter Try.func48, Try.ntmps48
  go_wp2_with fail
  go_loopw [7] (fun i wr => ∃ k : Nat, k ≤ l.length ∧ i = .int .i64 k ∧ (∀ j, (hj : j < l.length) → j < k → sameL a t l[j] = false) ∧ Below w.heap.size w wr) (fun i _ => l.length - (intOf i).toNat)
  case atStart => exact ⟨0, by omega, rfl, fun j hj h => absurd h (by omega), Below.refl _ _⟩
  case round =>
    obtain ⟨k, hk, rfl, hno, hB⟩ := hrel
    by_cases hlt : k < l.length
    · obtain ⟨b, o, rfl, hbw, hg⟩ := (hs.below hB).lt hlt
      have hlk : (k : Int) < (l.length : Int) := by omega
      have HY : Hid (sameL a t l[k] = true → getL l a t = l[k].qty) := Lib.hid (fun h => by unfold getL; rw [pickL, find_some hlt (fun j hj => hno j (by omega) hj) h]; rfl)
      have HNX : Hid (sameL a t l[k] = false → ∀ j, (hj : j < l.length) → j < k + 1 → sameL a t l[j] = false) := Lib.hid (fun h j hj hjk => by
        rcases Nat.lt_or_ge j k with h' | h'
        · exact hno j hj h'
        · obtain rfl : j = k := by omega
          exact h)
      clear hno
      generalize l[k] = v at *
      obtain ⟨xa, xt, xq⟩ := v
      obtain ⟨g0, g1, g2⟩ := hg
      simp only at g0 g1 g2
      by_cases h1 : xa = a
      · by_cases h2 : xt = t
        · have HE := Lib.hid (HY.out (by simp [sameL, h1, h2]))
          have h1b : (xa == a) = true := by simpa using h1
          have h2b : (xt == t) = true := by simpa using h2
          clear HY HNX h1 h2
          go_wp2_with fail
          go_ret
          exact ⟨retI HE.out.symm, hB⟩
        · have HN := Lib.hid (HNX.out (by simp [sameL, h2]))
          have h1b : (xa == a) = true := by simpa using h1
          have h2b : (xt == t) = false := by simpa using h2
          clear HY HNX h1 h2
          go_wp2_with fail
          go_roundw
          case rel => exact ⟨k + 1, by omega, by go_num, HN.out, hB⟩
          case measure => simp [intOf]; omega
      · have HN := Lib.hid (HNX.out (by simp [sameL, h1]))
        have h1b : (xa == a) = false := by simpa using h1
        clear HY HNX h1
        go_wp2_with fail
        go_roundw
        case rel => exact ⟨k + 1, by omega, by go_num, HN.out, hB⟩
        case measure => simp [intOf]; omega
    · have HE : Hid (getL l a t = 0) := Lib.hid (by unfold getL; rw [pickL, find_none (fun j hj => hno j hj (by omega))]; rfl)
      clear hno
      go_wp2_with fail
      go_ret
      exact ⟨retI HE.out.symm, hB⟩

set_option maxHeartbeats 1000000 in
set_option maxRecDepth 100000 in
theorem lcheck_any (A : Option Addr) (cap : Nat) (l : List Lt) (x : Lt) (w : World) (hl : l.length ≤ 1000000) (hs : Sl w A (rc Lt.cells l)) :
    Calls Try.prog 93 #[.slice A l.length cap, x.val] w fun e w' => e = .returned (.int .i64 (chkL l x)) ∧ Below w.heap.size w w' := by
  have hB0 := since_alloc (Below.refl _ w) (.cells x.cells.toArray 74)
  have hV0 := Lt.Bx.new w x
  have HI := lis_any A cap l _ hl (hs.alloc (.cells x.cells.toArray 74))
  have HF := Lib.hid (fun V => fit_any x V)
  unfold Lt.val at *
  unfold Lt.cells at hB0 hV0 HI
  cases hi : isLs l with
  | false =>
    have HE : Hid (chkL l x = 3) := Lib.hid (by rw [chkL, if_pos hi])
    rw [hi] at HI
    have HI := Lib.hid HI
    clear hi
    go_enter Try.func93, Try.ntmps93
    go_wp2_with fail
    refine HI.out.mono ?_
    rintro e w1 ⟨rfl, hb⟩
    have hB1 := since_step hB0 hb
    go_wp2_with fail
    go_ret
    exact ⟨retI HE.out.symm, hB1⟩
  | true =>
    rw [hi] at HI
    have HI := Lib.hid HI
    have HE : Hid (chkL l x = if okL x = false then 2 else 0) := Lib.hid (by rw [chkL, if_neg (by rw [hi]; decide)])
    clear hi
    cases ho : okL x
    all_goals
      rw [ho] at HF HE
      clear ho
      go_enter Try.func93, Try.ntmps93
      go_wp2_with fail
      refine HI.out.mono ?_
      rintro e w1 ⟨rfl, hb⟩
      have hB1 := since_step hB0 hb
      obtain ⟨q0, q1, q2⟩ := (hV0.below hb).got
      go_wp2_with fail
      refine (HF.out _).mono ?_
      rintro e w2 ⟨rfl, hb2⟩
      have hB2 := since_step hB1 hb2
      go_wp2_with fail
      go_ret
      exact ⟨retI HE.out.symm, hB2⟩
end Go.Proofs.Ytfagpdnckmaomaa
