import Derived.Test.YtlbccpiadmcpjaaCv02
section
namespace Go.Proofs.Ytlbccpiadmcpjaa
open Go.ChangeShapes Go.WideShapes Go.ChangeAt Go.RowKit
set_option linter.unusedVariables false
set_option linter.unusedSimpArgs false

def okL (x : Lt) : Bool := decide (1 ≤ x.ast) && decide (x.ast ≤ 4) && decide (0 ≤ x.tag) && decide (x.tag ≤ 255) && decide (0 < x.qty)
def ltL (x y : Lt) : Prop := x.ast < y.ast ∨ (x.ast = y.ast ∧ x.tag < y.tag)
instance (x y : Lt) : Decidable (ltL x y) := by unfold ltL; infer_instance
def ahL (x y : Lt) : Bool := decide (ltL x y)
def isLs (l : List Lt) : Bool := l.all okL && decide (l.length ≤ 16) && risingL ahL l
set_option maxHeartbeats 2000000 in
set_option maxRecDepth 100000 in
theorem fit_any (x : Lt) (w : World) : Calls Try.prog 60 #[x.val] w fun e w' => e = .returned (.bool (okL x)) ∧ Below w.heap.size w w' := by
  have hB := since_alloc (Below.refl _ w) (.cells x.cells.toArray 74)
  have hways : (x.ast < 1) ∨ (1 ≤ x.ast ∧ 4 < x.ast) ∨ (1 ≤ x.ast ∧ x.ast ≤ 4 ∧ x.tag < 0) ∨ (1 ≤ x.ast ∧ x.ast ≤ 4 ∧ 0 ≤ x.tag ∧ 255 < x.tag) ∨ (1 ≤ x.ast ∧ x.ast ≤ 4 ∧ 0 ≤ x.tag ∧ x.tag ≤ 255 ∧ x.qty ≤ 0) ∨ (1 ≤ x.ast ∧ x.ast ≤ 4 ∧ 0 ≤ x.tag ∧ x.tag ≤ 255 ∧ 0 < x.qty) := by omega
  unfold Lt.val
  unfold Lt.cells at hB
  rcases hways with hw | hw | hw | hw | hw | hw
  · have HE : Hid (okL x = false) := Lib.hid (by simp [okL]; omega)
    have c0 : ¬ (1 ≤ x.ast) := by omega
    have c1 : ¬ (0 < x.ast) := by omega
    clear hw
    go_enter Try.func60, Try.ntmps60
    go_wp2_with fail
    go_ret
    exact ⟨retB HE.out.symm, hB⟩
  · have HE : Hid (okL x = false) := Lib.hid (by simp [okL]; omega)
    have c0 : 1 ≤ x.ast := hw.1
    have c1 : 0 < x.ast := by omega
    have c2 : ¬ x.ast ≤ 4 := by omega
    have c3 : ¬ x.ast < 5 := by omega
    clear hw
    go_enter Try.func60, Try.ntmps60
    go_wp2_with fail
    go_ret
    exact ⟨retB HE.out.symm, hB⟩
  · have HE : Hid (okL x = false) := Lib.hid (by simp [okL]; omega)
    have c0 : 1 ≤ x.ast := hw.1
    have c1 : 0 < x.ast := by omega
    have c2 : x.ast ≤ 4 := by omega
    have c3 : x.ast < 5 := by omega
    have c4 : ¬ 0 ≤ x.tag := by omega
    clear hw
    go_enter Try.func60, Try.ntmps60
    go_wp2_with fail
    go_ret
    exact ⟨retB HE.out.symm, hB⟩
  · have HE : Hid (okL x = false) := Lib.hid (by simp [okL]; omega)
    have c0 : 1 ≤ x.ast := hw.1
    have c1 : 0 < x.ast := by omega
    have c2 : x.ast ≤ 4 := by omega
    have c3 : x.ast < 5 := by omega
    have c4 : 0 ≤ x.tag := by omega
    have c5 : ¬ x.tag ≤ 255 := by omega
    have c6 : ¬ x.tag < 256 := by omega
    clear hw
    go_enter Try.func60, Try.ntmps60
    go_wp2_with fail
    go_ret
    exact ⟨retB HE.out.symm, hB⟩
  · have HE : Hid (okL x = false) := Lib.hid (by simp [okL]; omega)
    have c0 : 1 ≤ x.ast := hw.1
    have c1 : 0 < x.ast := by omega
    have c2 : x.ast ≤ 4 := by omega
    have c3 : x.ast < 5 := by omega
    have c4 : 0 ≤ x.tag := by omega
    have c5 : x.tag ≤ 255 := by omega
    have c6 : x.tag < 256 := by omega
    have c7 : ¬ 0 < x.qty := by omega
    clear hw
    go_enter Try.func60, Try.ntmps60
    go_wp2_with fail
    go_ret
    exact ⟨retB HE.out.symm, hB⟩
  · have HE : Hid (okL x = true) := Lib.hid (by simp [okL]; omega)
    have c0 : 1 ≤ x.ast := hw.1
    have c1 : 0 < x.ast := by omega
    have c2 : x.ast ≤ 4 := by omega
    have c3 : x.ast < 5 := by omega
    have c4 : 0 ≤ x.tag := by omega
    have c5 : x.tag ≤ 255 := by omega
    have c6 : x.tag < 256 := by omega
    have c7 : 0 < x.qty := by omega
    clear hw
    go_enter Try.func60, Try.ntmps60
    go_wp2_with fail
    go_ret
    exact ⟨retB HE.out.symm, hB⟩
set_option maxHeartbeats 2000000 in
set_option maxRecDepth 100000 in
theorem one_any (x : Lt) (w : World) : Calls Try.prog 43 #[x.val] w fun e w' => e = .returned (.bool (okL x)) ∧ Below w.heap.size w w' := by
  have hB := since_alloc (Below.refl _ w) (.cells x.cells.toArray 74)
  have hways : (x.ast < 1) ∨ (1 ≤ x.ast ∧ 4 < x.ast) ∨ (1 ≤ x.ast ∧ x.ast ≤ 4 ∧ x.tag < 0) ∨ (1 ≤ x.ast ∧ x.ast ≤ 4 ∧ 0 ≤ x.tag ∧ 255 < x.tag) ∨ (1 ≤ x.ast ∧ x.ast ≤ 4 ∧ 0 ≤ x.tag ∧ x.tag ≤ 255 ∧ x.qty ≤ 0) ∨ (1 ≤ x.ast ∧ x.ast ≤ 4 ∧ 0 ≤ x.tag ∧ x.tag ≤ 255 ∧ 0 < x.qty) := by omega
  unfold Lt.val
  unfold Lt.cells at hB
  rcases hways with hw | hw | hw | hw | hw | hw
  · have HE : Hid (okL x = false) := Lib.hid (by simp [okL]; omega)
    have c0 : ¬ (1 ≤ x.ast) := by omega
    have c1 : ¬ (0 < x.ast) := by omega
    clear hw
    go_enter Try.func43, Try.ntmps43
    go_wp2_with fail
    go_ret
    exact ⟨retB HE.out.symm, hB⟩
  · have HE : Hid (okL x = false) := Lib.hid (by simp [okL]; omega)
    have c0 : 1 ≤ x.ast := hw.1
    have c1 : 0 < x.ast := by omega
    have c2 : ¬ x.ast ≤ 4 := by omega
    have c3 : ¬ x.ast < 5 := by omega
    clear hw
    go_enter Try.func43, Try.ntmps43
    go_wp2_with fail
    go_ret
    exact ⟨retB HE.out.symm, hB⟩
  · have HE : Hid (okL x = false) := Lib.hid (by simp [okL]; omega)
    have c0 : 1 ≤ x.ast := hw.1
    have c1 : 0 < x.ast := by omega
    have c2 : x.ast ≤ 4 := by omega
    have c3 : x.ast < 5 := by omega
    have c4 : ¬ 0 ≤ x.tag := by omega
    clear hw
    go_enter Try.func43, Try.ntmps43
    go_wp2_with fail
    go_ret
    exact ⟨retB HE.out.symm, hB⟩
  · have HE : Hid (okL x = false) := Lib.hid (by simp [okL]; omega)
    have c0 : 1 ≤ x.ast := hw.1
    have c1 : 0 < x.ast := by omega
    have c2 : x.ast ≤ 4 := by omega
    have c3 : x.ast < 5 := by omega
    have c4 : 0 ≤ x.tag := by omega
    have c5 : ¬ x.tag ≤ 255 := by omega
    have c6 : ¬ x.tag < 256 := by omega
    clear hw
    go_enter Try.func43, Try.ntmps43
    go_wp2_with fail
    go_ret
    exact ⟨retB HE.out.symm, hB⟩
  · have HE : Hid (okL x = false) := Lib.hid (by simp [okL]; omega)
    have c0 : 1 ≤ x.ast := hw.1
    have c1 : 0 < x.ast := by omega
    have c2 : x.ast ≤ 4 := by omega
    have c3 : x.ast < 5 := by omega
    have c4 : 0 ≤ x.tag := by omega
    have c5 : x.tag ≤ 255 := by omega
    have c6 : x.tag < 256 := by omega
    have c7 : ¬ 0 < x.qty := by omega
    clear hw
    go_enter Try.func43, Try.ntmps43
    go_wp2_with fail
    go_ret
    exact ⟨retB HE.out.symm, hB⟩
  · have HE : Hid (okL x = true) := Lib.hid (by simp [okL]; omega)
    have c0 : 1 ≤ x.ast := hw.1
    have c1 : 0 < x.ast := by omega
    have c2 : x.ast ≤ 4 := by omega
    have c3 : x.ast < 5 := by omega
    have c4 : 0 ≤ x.tag := by omega
    have c5 : x.tag ≤ 255 := by omega
    have c6 : x.tag < 256 := by omega
    have c7 : 0 < x.qty := by omega
    clear hw
    go_enter Try.func43, Try.ntmps43
    go_wp2_with fail
    go_ret
    exact ⟨retB HE.out.symm, hB⟩
set_option maxHeartbeats 1000000 in
set_option maxRecDepth 100000 in
theorem lahead_any (x y : Lt) (w : World) : Calls Try.prog 62 #[x.val, y.val] w fun e w' => e = .returned (.bool (ahL x y)) ∧ Below w.heap.size w w' := by
  have hB := since_alloc (since_alloc (Below.refl _ w) (.cells x.cells.toArray 74)) (.cells y.cells.toArray 74)
  obtain ⟨ua, uc, uq⟩ := x
  obtain ⟨va, vc, vq⟩ := y
  unfold Lt.val Lt.cells at *
  simp only at hB ⊢
  by_cases h1 : ua < va
  · have HE : Hid (ahL ⟨ua, uc, uq⟩ ⟨va, vc, vq⟩ = true) := Lib.hid (by simp [ahL, ltL, h1])
    go_enter Try.func62, Try.ntmps62
    go_wp2_with fail
    go_ret
    exact ⟨retB HE.out.symm, hB⟩
  by_cases h2 : ua = va
  · subst h2
    have HE : Hid (ahL ⟨ua, uc, uq⟩ ⟨ua, vc, vq⟩ = decide (uc < vc)) := Lib.hid (by simp [ahL, ltL])
    go_enter Try.func62, Try.ntmps62
    go_wp2_with fail
    go_ret
    exact ⟨retB HE.out.symm, hB⟩
  · have HE : Hid (ahL ⟨ua, uc, uq⟩ ⟨va, vc, vq⟩ = false) := Lib.hid (decide_eq_false (by unfold ltL; simp only; omega))
    have h2b : (ua == va) = false := by simpa using h2
    clear h2
    go_enter Try.func62, Try.ntmps62
    go_wp2_with fail
    go_ret
    exact ⟨retB HE.out.symm, hB⟩
set_option maxHeartbeats 1000000 in
set_option maxRecDepth 100000 in
theorem rless_any (x y : Lt) (w : World) : Calls Try.prog 44 #[x.val, y.val] w fun e w' => e = .returned (.bool (ahL x y)) ∧ Below w.heap.size w w' := by
  have hB := since_alloc (since_alloc (Below.refl _ w) (.cells x.cells.toArray 74)) (.cells y.cells.toArray 74)
  obtain ⟨ua, uc, uq⟩ := x
  obtain ⟨va, vc, vq⟩ := y
  unfold Lt.val Lt.cells at *
  simp only at hB ⊢
  by_cases h1 : ua < va
  · have HE : Hid (ahL ⟨ua, uc, uq⟩ ⟨va, vc, vq⟩ = true) := Lib.hid (by simp [ahL, ltL, h1])
    go_enter Try.func44, Try.ntmps44
    go_wp2_with fail
    go_ret
    exact ⟨retB HE.out.symm, hB⟩
  by_cases h2 : ua = va
  · subst h2
    have HE : Hid (ahL ⟨ua, uc, uq⟩ ⟨ua, vc, vq⟩ = decide (uc < vc)) := Lib.hid (by simp [ahL, ltL])
    go_enter Try.func44, Try.ntmps44
    go_wp2_with fail
    go_ret
    exact ⟨retB HE.out.symm, hB⟩
  · have HE : Hid (ahL ⟨ua, uc, uq⟩ ⟨va, vc, vq⟩ = false) := Lib.hid (decide_eq_false (by unfold ltL; simp only; omega))
    have h2b : (ua == va) = false := by simpa using h2
    clear h2
    go_enter Try.func44, Try.ntmps44
    go_wp2_with fail
    go_ret
    exact ⟨retB HE.out.symm, hB⟩
theorem ent_lahead : Ent Try.prog 62 := Ent.of (by kernel_rfl)
theorem tells_lahead (B : Nat) (w : World) : Lt.Tells2 62 #[] ahL B w := fun a b W _ => lahead_any a b W
theorem isLs_bad {l : List Lt} {k : Nat} (h : k < l.length) (hb : okL l[k] = false) : isLs l = false := by
  unfold isLs
  have : l.all okL = false := by
    rw [← Bool.not_eq_true, List.all_eq_true]
    intro ha
    rw [ha _ (List.getElem_mem h)] at hb
    cases hb
  rw [this]; simp
theorem all_ok {l : List Lt} (h : ∀ j, (hj : j < l.length) → okL l[j] = true) : l.all okL = true := by
  rw [List.all_eq_true]
  intro x hx
  obtain ⟨j, hj, rfl⟩ := List.getElem_of_mem hx
  exact h j hj
set_option maxHeartbeats 4000000 in
set_option maxRecDepth 100000 in
theorem lis_any (A : Option Addr) (cap : Nat) (l : List Lt) (w : World) (hl : l.length ≤ 1000000) (hs : Sl w A (rc Lt.cells l)) :
    Calls Try.prog 39 #[.slice A l.length cap] w fun e w' => e = .returned (.bool (isLs l)) ∧ Below w.heap.size w w' := by
  go_enter Try.func39, Try.ntmps39
  go_wp2_with fail
  go_loopw [7] (fun i wr => ∃ k : Nat, k ≤ l.length ∧ i = .int .i64 k ∧ (∀ j, (hj : j < l.length) → j < k → okL l[j] = true) ∧ Below w.heap.size w wr) (fun i _ => l.length - (intOf i).toNat)
  case atStart => exact ⟨0, by omega, rfl, fun j hj h => absurd h (by omega), Below.refl _ _⟩
  case round =>
    obtain ⟨k, hk, rfl, hno, hB⟩ := hrel
    by_cases hlt : k < l.length
    · obtain ⟨b, o, rfl, hbw, hg⟩ := (hs.below hB).lt hlt
      have hlk : (k : Int) < (l.length : Int) := by omega
      have HF := Lib.hid (fun V => fit_any l[k] V)
      have hA := since_alloc hB (.cells l[k].cells.toArray 74)
      have HNX : Hid (okL l[k] = true → ∀ j, (hj : j < l.length) → j < k + 1 → okL l[j] = true) := Lib.hid (fun h j hj hjk => by
        rcases Nat.lt_or_ge j k with h' | h'
        · exact hno j hj h'
        · obtain rfl : j = k := by omega
          exact h)
      have HBD : Hid (okL l[k] = false → isLs l = false) := Lib.hid (fun h => isLs_bad hlt h)
      clear hno
      generalize l[k] = v at *
      obtain ⟨g0, g1, g2⟩ := hg
      unfold Lt.val at HF
      unfold Lt.cells at hA
      cases hq : okL v with
      | true =>
        rw [hq] at HF
        have HN := Lib.hid (HNX.out hq)
        clear HBD HNX hq
        go_wp2_with fail
        refine (HF.out _).mono ?_
        rintro e w1 ⟨rfl, hb⟩
        have hB1 := since_step hA hb
        go_wp2_with fail
        go_roundw
        case rel => exact ⟨k + 1, by omega, by go_num, HN.out, hB1⟩
        case measure => simp [intOf]; omega
      | false =>
        rw [hq] at HF
        have HE := Lib.hid (HBD.out hq)
        clear HBD HNX hq
        go_wp2_with fail
        refine (HF.out _).mono ?_
        rintro e w1 ⟨rfl, hb⟩
        have hB1 := since_step hA hb
        go_wp2_with fail
        go_ret
        exact ⟨retB HE.out.symm, hB1⟩
    · obtain rfl : k = l.length := by omega
      have ha := all_ok fun j hj => hno j hj hj
      clear hno
      by_cases h16 : l.length ≤ 16
      · have HE : Hid (isLs l = risingL ahL l) := Lib.hid (by unfold isLs; rw [ha]; simp [h16])
        have h16i : (l.length : Int) ≤ 16 := by omega
        have hs2 := hs.below hB
        clear ha
        go_wp2_with fail
        refine (rising_lt A cap l 62 #[] ahL _ hl hs2 ent_lahead (tells_lahead _ _)).mono ?_
        rintro e w1 ⟨rfl, hb⟩
        have hB1 := since_step hB hb
        go_wp2_with fail
        go_ret
        exact ⟨retB HE.out.symm, hB1⟩
      · have HE : Hid (isLs l = false) := Lib.hid (by unfold isLs; simp [h16])
        have h16i : ¬ (l.length : Int) ≤ 16 := by omega
        clear ha
        go_wp2_with fail
        go_ret
        exact ⟨retB HE.out.symm, hB⟩
end Go.Proofs.Ytlbccpiadmcpjaa
end
