import Derived.Test.YtmjndpkfhdoljaaGreatCm06
set_option maxHeartbeats 16000000
set_option maxRecDepth 100000
set_option linter.unusedVariables false
set_option linter.unusedSimpArgs false
namespace Go.Proofs.YtmjndpkfhdoljaaGreat
open Go.ChangeShapes Go.WideShapes Go.ChangeAt Go.RowKit
section
theorem aless_any (ua uc va vc : Int) (w : World) : Calls Tryz.prog 91 #[.agg #[.int .i64 ua, .int .i64 uc], .agg #[.int .i64 va, .int .i64 vc]] w fun e w' => e = .returned (.bool (keyLt ua uc va vc)) ∧ Below w.heap.size w w' := by
  have hB := since_alloc (since_alloc (Below.refl _ w) (.cells #[.int .i64 ua, .int .i64 uc] 41)) (.cells #[.int .i64 va, .int .i64 vc] 41)
  by_cases h1 : ua < va
  · have HE : Hid (keyLt ua uc va vc = true) := Lib.hid (by simp [keyLt, h1])
    go_enter Tryz.func91, Tryz.ntmps91
    go_wp2_with fail
    go_ret
    exact ⟨retB HE.out.symm, hB⟩
  by_cases h2 : ua = va
  · subst h2
    have HE : Hid (keyLt ua uc ua vc = decide (uc < vc)) := Lib.hid (by simp [keyLt])
    go_enter Tryz.func91, Tryz.ntmps91
    go_wp2_with fail
    go_ret
    exact ⟨retB HE.out.symm, hB⟩
  · have HE : Hid (keyLt ua uc va vc = false) := Lib.hid (decide_eq_false (by omega))
    have h2b : (ua == va) = false := by simpa using h2
    clear h2
    go_enter Tryz.func91, Tryz.ntmps91
    go_wp2_with fail
    go_ret
    exact ⟨retB HE.out.symm, hB⟩
theorem r15less_any (ua uc va vc : Int) (w : World) : Calls Tryz.prog 69 #[.agg #[.int .i64 ua, .int .i64 uc], .agg #[.int .i64 va, .int .i64 vc]] w fun e w' => e = .returned (.bool (keyLt ua uc va vc)) ∧ Below w.heap.size w w' := by
  have hB := since_alloc (since_alloc (Below.refl _ w) (.cells #[.int .i64 ua, .int .i64 uc] 41)) (.cells #[.int .i64 va, .int .i64 vc] 41)
  by_cases h1 : ua < va
  · have HE : Hid (keyLt ua uc va vc = true) := Lib.hid (by simp [keyLt, h1])
    go_enter Tryz.func69, Tryz.ntmps69
    go_wp2_with fail
    go_ret
    exact ⟨retB HE.out.symm, hB⟩
  by_cases h2 : ua = va
  · subst h2
    have HE : Hid (keyLt ua uc ua vc = decide (uc < vc)) := Lib.hid (by simp [keyLt])
    go_enter Tryz.func69, Tryz.ntmps69
    go_wp2_with fail
    go_ret
    exact ⟨retB HE.out.symm, hB⟩
  · have HE : Hid (keyLt ua uc va vc = false) := Lib.hid (decide_eq_false (by omega))
    have h2b : (ua == va) = false := by simpa using h2
    clear h2
    go_enter Tryz.func69, Tryz.ntmps69
    go_wp2_with fail
    go_ret
    exact ⟨retB HE.out.symm, hB⟩
theorem pahead_any (x y : Fw) (w : World) : Calls Tryz.prog 52 #[x.val, y.val] w fun e w' => e = .returned (.bool (ahF x y)) ∧ Below w.heap.size w w' := by
  obtain ⟨ua, uc, uq⟩ := x
  obtain ⟨va, vc, vq⟩ := y
  unfold Fw.val ahF
  simp only
  have hB := since_alloc (since_alloc (Below.refl _ w) (.cells #[.int .i64 ua, .int .i64 uc, .int .i64 uq] 50)) (.cells #[.int .i64 va, .int .i64 vc, .int .i64 vq] 50)
  go_enter Tryz.func52, Tryz.ntmps52
  go_wp2_with fail
  refine (aless_any ua uc va vc _).mono ?_
  rintro e w1 ⟨rfl, hb⟩
  have hB1 := since_step hB hb
  go_wp2_with fail
  go_ret
  exact ⟨rfl, hB1⟩
theorem ent_pahead : Ent Tryz.prog 52 := Ent.of (by kernel_rfl)
theorem tells_pahead (B : Nat) (w : World) : Fw.Tells2 52 #[] ahF B w := fun a b W _ => pahead_any a b W
theorem isF_bad {l : List Fw} {k : Nat} (h : k < l.length) (hb : l[k].amt = 0) : isF l = false := by
  rw [← Bool.not_eq_true]
  intro hi
  exact isF_amt hi _ (List.getElem_mem h) hb
theorem isF_low {l : List Fw} {j : Nat} (h : j + 1 < l.length) (hb : ahF (l[j]'(by omega)) l[j + 1] = false) : isF l = false := by
  rw [← Bool.not_eq_true]
  intro hi
  have := List.pairwise_iff_getElem.1 (isF_sorted hi) j (j + 1) (by omega) h (by omega)
  rw [this] at hb; cases hb
theorem isF_end {l : List Fw} (h1 : ∀ j, (hj : j < l.length) → l[j].amt ≠ 0) : isF l = risingL ahF l := by
  have : l.all (fun x => x.amt != 0) = true := by
    rw [List.all_eq_true]
    intro x hx
    obtain ⟨j, hj, rfl⟩ := List.getElem_of_mem hx
    simpa using h1 j hj
  unfold isF
  rw [this, Bool.true_and]
theorem pis_any (A : Option Addr) (cap : Nat) (l : List Fw) (w : World) (hl : l.length ≤ 1000000) (hs : Sl w A (rc Fw.cells l)) :
    Calls Tryz.prog 22 #[.slice A l.length cap] w fun e w' => e = .returned (.bool (isF l)) ∧ Below w.heap.size w w' := by
  go_enter Tryz.func22, Tryz.ntmps22
  go_wp2_with fail
  go_loopw [7] (fun i wr => ∃ k : Nat, k ≤ l.length ∧ i = .int .i64 k ∧ (∀ j, (hj : j < l.length) → j < k → l[j].amt ≠ 0) ∧ Below w.heap.size w wr) (fun i _ => l.length - (intOf i).toNat)
  case atStart => exact ⟨0, by omega, rfl, fun j hj h => absurd h (by omega), Below.refl _ _⟩
  case round =>
    obtain ⟨k, hk, rfl, hno, hB⟩ := hrel
    by_cases hlt : k < l.length
    · obtain ⟨b, o, rfl, hbw, hg⟩ := (hs.below hB).fw hlt
      have hlk : (k : Int) < (l.length : Int) := by omega
      have hA := since_alloc hB (.cells l[k].cells.toArray 50)
      have HNX : Hid (l[k].amt ≠ 0 → ∀ j, (hj : j < l.length) → j < k + 1 → l[j].amt ≠ 0) := Lib.hid (fun h j hj hjk => by
        rcases Nat.lt_or_ge j k with h' | h'
        · exact hno j hj h'
        · obtain rfl : j = k := by omega
          exact h)
      have HBD : Hid (l[k].amt = 0 → isF l = false) := Lib.hid (fun h => isF_bad hlt h)
      clear hno
      generalize l[k] = v at *
      obtain ⟨va, vc, vq⟩ := v
      obtain ⟨g0, g1, g2⟩ := hg
      unfold Fw.cells at hA
      simp only at g0 g1 g2 hA HNX HBD
      by_cases hq : vq = 0
      · have HR := Lib.hid (HBD.out hq)
        have hqb : (vq == 0) = true := by simpa using hq
        clear HBD HNX hq
        go_wp2_with fail
        go_ret
        exact ⟨retB HR.out.symm, hA⟩
      · have HN := Lib.hid (HNX.out hq)
        have hqb : (vq == 0) = false := by simpa using hq
        clear HBD HNX hq
        go_wp2_with fail
        go_roundw
        case rel => exact ⟨k + 1, by omega, by go_num, HN.out, hA⟩
        case measure => simp [intOf]; omega
    · obtain rfl : k = l.length := by omega
      have HR := Lib.hid (isF_end fun j hj => hno j hj hj)
      have hs1 := hs.below hB
      clear hno
      go_wp2_with fail
      refine (rising_fw A cap l 52 #[] ahF _ hl hs1 ent_pahead (tells_pahead _ _)).mono ?_
      rintro e w1 ⟨rfl, hb1⟩
      have hB1 := since_step hB hb1
      go_wp2_with fail
      go_ret
      exact ⟨retB HR.out.symm, hB1⟩
theorem rpis_any (A : Option Addr) (cap : Nat) (l : List Fw) (w : World) (hl : l.length ≤ 1000000) (hs : Sl w A (rc Fw.cells l)) :
  Calls Tryz.prog 33 #[.slice A l.length cap] w fun e w' => e = .returned (.bool (isF l)) ∧ Below w.heap.size w w' := by
 go_enter Tryz.func33, Tryz.ntmps33
 go_wp2_with fail
 go_loopw [3] (fun i wr => ∃ k : Nat, k ≤ l.length ∧ i = .int .i64 k ∧ ((∀ j, (hj : j < l.length) → j < k → l[j].amt ≠ 0) ∧ ∀ j, (hj : j + 1 < l.length) → j + 1 < k → ahF (l[j]'(Nat.lt_of_succ_lt hj)) l[j + 1] = true) ∧ Below w.heap.size w wr) (fun i _ => l.length - (intOf i).toNat)
 case atStart => exact ⟨0, by omega, rfl, ⟨fun j hj h => absurd h (by omega), fun j hj h => absurd h (by omega)⟩, Below.refl _ _⟩
 case round =>
  obtain ⟨k, hk, rfl, ⟨hno, hup⟩, hB⟩ := hrel
  by_cases hlt : k < l.length
  ·obtain ⟨b, o, hA, hbw, hg⟩ := (hs.below hB).fw hlt
   have hlk : (k : Int) < (l.length : Int) := by omega
   have hgk : (0 : Int) ≤ (k : Int) := by omega
   have hks : IntKind.i64.wrap ((k : Int) + 1) = (k : Int) + 1 := IntWalk.i64_in _ (by omega)
   by_cases hq : l[k].amt = 0
   ·have HR := Lib.hid (isF_bad hlt hq)
    have HG : Hid (∀ V, Below wr.heap.size wr V → l[k].at V b (o + k * 3)) := Lib.hid fun V hV => Fw.at_keep hg fun i => hV.cell (p := ⟨b, i, none⟩) hbw
    have hqb : (l[k].amt == 0) = true := by simpa using hq
    clear hno hup hg hq
    generalize l[k] = v at *
    obtain ⟨va, vc, vq⟩ := v
    unfold Fw.at at HG
    simp only at HG hqb
    subst hA
    go_wp2_with fail
    refine wp_region_held_drew (S := (fun V => Below wr.heap.size wr V)) (by kernel_rfl) (by exact (Below.refl _ _).drew) (fun hHeld => ?_)
    refine tkI 0 10 rfl (by intro w hSw; obtain ⟨g0, g1, g2⟩ := HG.out _ hSw; go_simp <;> with_reducible rfl) hHeld ?_; simp only [pqZ]
    refine tkI 1 11 rfl (by intro w hSw; obtain ⟨g0, g1, g2⟩ := HG.out _ hSw; go_simp <;> with_reducible rfl) hHeld ?_; simp only [pqZ]
    refine tkI 2 12 rfl (by intro w hSw; obtain ⟨g0, g1, g2⟩ := HG.out _ hSw; go_simp <;> with_reducible rfl) hHeld ?_; simp only [pqZ]
    refine tkI 3 13 rfl (by intro w hSw; obtain ⟨g0, g1, g2⟩ := HG.out _ hSw; go_simp <;> with_reducible rfl) hHeld ?_; simp only [pqZ]
    refine tkI 4 14 rfl (by intro w hSw; obtain ⟨g0, g1, g2⟩ := HG.out _ hSw; go_simp <;> with_reducible rfl) hHeld ?_; simp only [pqZ]
    refine tkI 5 15 rfl (by intro w hSw; obtain ⟨g0, g1, g2⟩ := HG.out _ hSw; go_simp <;> with_reducible rfl) hHeld ?_; simp only [pqZ]
    refine tkI 6 16 rfl (by intro w hSw; obtain ⟨g0, g1, g2⟩ := HG.out _ hSw; go_simp <;> with_reducible rfl) hHeld ?_; simp only [pqZ]
    refine tkO 7 17 rfl (by kernel_rfl) (by rfl) hHeld ?_; simp only [pqZ]
    refine tkO 8 18 rfl (by kernel_rfl) (by rfl) hHeld ?_; simp only [pqZ]
    refine tkO 9 19 rfl (by kernel_rfl) (by rfl) hHeld ?_; simp only [pqZ]
    refine tkO 10 20 rfl (by kernel_rfl) (by rfl) hHeld ?_; simp only [pqZ]
    refine tkO 11 21 rfl (by kernel_rfl) (by rfl) hHeld ?_; simp only [pqZ]
    refine tkO 12 22 rfl (by kernel_rfl) (by rfl) hHeld ?_; simp only [pqZ]
    refine tkO 13 23 rfl (by kernel_rfl) (by rfl) hHeld ?_; simp only [pqZ]
    refine tkO 14 24 rfl (by kernel_rfl) (by rfl) hHeld ?_; simp only [pqZ]
    refine tkO 15 25 rfl (by kernel_rfl) (by rfl) hHeld ?_; simp only [pqZ]
    refine tkO 16 26 rfl (by kernel_rfl) (by rfl) hHeld ?_; simp only [pqZ]
    refine tkO 17 27 rfl (by kernel_rfl) (by rfl) hHeld ?_; simp only [pqZ]
    refine tkO 18 28 rfl (by kernel_rfl) (by rfl) hHeld ?_; simp only [pqZ]
    refine tkO 19 29 rfl (by kernel_rfl) (by rfl) hHeld ?_; simp only [pqZ]
    refine tkO 20 30 rfl (by kernel_rfl) (by rfl) hHeld ?_; simp only [pqZ]
    refine tkO 21 31 rfl (by kernel_rfl) (by rfl) hHeld ?_; simp only [pqZ]
    refine tkO 22 32 rfl (by kernel_rfl) (by rfl) hHeld ?_; simp only [pqZ]
    refine tkO 23 33 rfl (by kernel_rfl) (by rfl) hHeld ?_; simp only [pqZ]
    refine tkI 24 34 rfl (by intro w hSw; obtain ⟨g0, g1, g2⟩ := HG.out _ hSw; go_simp <;> with_reducible rfl) hHeld ?_; simp only [pqZ]
    refine wpAnyH_done (by kernel_rfl) ?_ _
    have hB2 := hB.trans (hHeld.mono hB.size)
    go_wp2_with fail
    go_ret
    exact ⟨retB HR.out.symm, hB2⟩
   have hqb : (l[k].amt == 0) = false := by simpa using hq
   rcases Nat.eq_zero_or_pos k with h0 | h0
   ·have HN : Hid ((∀ j, (hj : j < l.length) → j < k + 1 → l[j].amt ≠ 0) ∧ ∀ j, (hj : j + 1 < l.length) → j + 1 < k + 1 → ahF (l[j]'(Nat.lt_of_succ_lt hj)) l[j + 1] = true) := Lib.hid ⟨fun j hj hjk => by
     obtain rfl : j = k := by omega
     exact hq, fun j hj hjk => absurd hjk (by omega)⟩
    have HG : Hid (∀ V, Below wr.heap.size wr V → l[k].at V b (o + k * 3)) := Lib.hid fun V hV => Fw.at_keep hg fun i => hV.cell (p := ⟨b, i, none⟩) hbw
    have hz1 : ¬ (0 : Int) < (k : Int) := by omega
    have hz2 : decide ((0 : Int) < (k : Int)) = false := decide_eq_false hz1
    have hz3 : ¬ 0 < k := by omega
    have hz4 : decide (0 < k) = false := decide_eq_false hz3
    clear hno hup hg hq h0
    generalize l[k] = v at *
    obtain ⟨va, vc, vq⟩ := v
    unfold Fw.at at HG
    simp only at HG hqb
    subst hA
    go_wp2_with fail
    refine wp_region_held_drew (S := (fun V => Below wr.heap.size wr V)) (by kernel_rfl) (by exact (Below.refl _ _).drew) (fun hHeld => ?_)
    refine tkI 0 10 rfl (by intro w hSw; obtain ⟨g0, g1, g2⟩ := HG.out _ hSw; go_simp <;> with_reducible rfl) hHeld ?_; simp only [pqZ]
    refine tkI 1 11 rfl (by intro w hSw; obtain ⟨g0, g1, g2⟩ := HG.out _ hSw; go_simp <;> with_reducible rfl) hHeld ?_; simp only [pqZ]
    refine tkI 2 12 rfl (by intro w hSw; obtain ⟨g0, g1, g2⟩ := HG.out _ hSw; go_simp <;> with_reducible rfl) hHeld ?_; simp only [pqZ]
    refine tkI 3 13 rfl (by intro w hSw; obtain ⟨g0, g1, g2⟩ := HG.out _ hSw; go_simp <;> with_reducible rfl) hHeld ?_; simp only [pqZ]
    refine tkI 4 14 rfl (by intro w hSw; obtain ⟨g0, g1, g2⟩ := HG.out _ hSw; go_simp <;> with_reducible rfl) hHeld ?_; simp only [pqZ]
    refine tkI 5 15 rfl (by intro w hSw; obtain ⟨g0, g1, g2⟩ := HG.out _ hSw; go_simp <;> with_reducible rfl) hHeld ?_; simp only [pqZ]
    refine tkI 6 16 rfl (by intro w hSw; obtain ⟨g0, g1, g2⟩ := HG.out _ hSw; go_simp <;> with_reducible rfl) hHeld ?_; simp only [pqZ]
    refine tkI 7 17 rfl (by intro w hSw; obtain ⟨g0, g1, g2⟩ := HG.out _ hSw; go_simp <;> with_reducible rfl) hHeld ?_; simp only [pqZ]
    refine tkI 8 18 rfl (by intro w hSw; obtain ⟨g0, g1, g2⟩ := HG.out _ hSw; go_simp <;> with_reducible rfl) hHeld ?_; simp only [pqZ]
    refine tkI 9 19 rfl (by intro w hSw; obtain ⟨g0, g1, g2⟩ := HG.out _ hSw; go_simp <;> with_reducible rfl) hHeld ?_; simp only [pqZ]
    refine tkO 10 20 rfl (by kernel_rfl) (by rfl) hHeld ?_; simp only [pqZ]
    refine tkO 11 21 rfl (by kernel_rfl) (by rfl) hHeld ?_; simp only [pqZ]
    refine tkO 12 22 rfl (by kernel_rfl) (by rfl) hHeld ?_; simp only [pqZ]
    refine tkO 13 23 rfl (by kernel_rfl) (by rfl) hHeld ?_; simp only [pqZ]
    refine tkO 14 24 rfl (by kernel_rfl) (by rfl) hHeld ?_; simp only [pqZ]
    refine tkO 15 25 rfl (by kernel_rfl) (by rfl) hHeld ?_; simp only [pqZ]
    refine tkO 16 26 rfl (by kernel_rfl) (by rfl) hHeld ?_; simp only [pqZ]
    refine tkO 17 27 rfl (by kernel_rfl) (by rfl) hHeld ?_; simp only [pqZ]
    refine tkO 18 28 rfl (by kernel_rfl) (by rfl) hHeld ?_; simp only [pqZ]
    refine tkO 19 29 rfl (by kernel_rfl) (by rfl) hHeld ?_; simp only [pqZ]
    refine tkO 20 30 rfl (by kernel_rfl) (by rfl) hHeld ?_; simp only [pqZ]
    refine tkO 21 31 rfl (by kernel_rfl) (by rfl) hHeld ?_; simp only [pqZ]
    refine tkO 22 32 rfl (by kernel_rfl) (by rfl) hHeld ?_; simp only [pqZ]
    refine tkI 23 33 rfl (by intro w hSw; obtain ⟨g0, g1, g2⟩ := HG.out _ hSw; go_simp <;> with_reducible rfl) hHeld ?_; simp only [pqZ]
    refine tkI 24 34 rfl (by intro w hSw; obtain ⟨g0, g1, g2⟩ := HG.out _ hSw; go_simp <;> with_reducible rfl) hHeld ?_; simp only [pqZ]
    refine wpAnyH_done (by kernel_rfl) ?_ _
    have hB2 := hB.trans (hHeld.mono hB.size)
    go_wp2_with fail
    go_roundw
    case rel => exact ⟨k + 1, by omega, by go_num, HN.out, hB2⟩
    case measure => simp [intOf]; omega
   ·obtain ⟨j, rfl⟩ : ∃ j, k = j + 1 := ⟨k - 1, by omega⟩
    obtain ⟨b', o', hA', hbw', hg'⟩ := (hs.below hB).fw (k := j) (by omega)
    rw [hA] at hA'
    injection hA' with e; injection e with e1 e2; subst e1; subst e2
    have HX : Hid (∀ q, ahF (l[j]'(Nat.lt_of_succ_lt hlt)) l[j + 1] = q → if q = true then ((∀ i, (hj : i < l.length) → i < j + 1 + 1 → l[i].amt ≠ 0) ∧ ∀ i, (hj : i + 1 < l.length) → i + 1 < j + 1 + 1 → ahF (l[i]'(Nat.lt_of_succ_lt hj)) l[i + 1] = true) else isF l = false) := Lib.hid fun q hq2 => by
     cases q with
     | true =>
      refine ⟨fun i hi hik => ?_, fun i hi hik => ?_⟩
      ·rcases Nat.lt_or_ge i (j + 1) with h | h
       ·exact hno i hi h
       ·obtain rfl : i = j + 1 := by omega
        exact hq
      ·rcases Nat.lt_or_ge (i + 1) (j + 1) with h | h
       ·exact hup i hi h
       ·obtain rfl : i = j := by omega
        exact hq2
     | false => exact isF_low hlt hq2
    have HG : Hid (∀ V, Below wr.heap.size wr V → l[j + 1].at V b (o + (j + 1) * 3) ∧ (l[j]'(Nat.lt_of_succ_lt hlt)).at V b (o + j * 3)) := Lib.hid fun V hV => ⟨Fw.at_keep hg fun i => hV.cell (p := ⟨b, i, none⟩) hbw, Fw.at_keep hg' fun i => hV.cell (p := ⟨b, i, none⟩) hbw'⟩
    have hj1 : IntKind.i64.wrap (j : Int) = (j : Int) := IntWalk.i64_in _ (by omega)
    have hj2 : (0 : Int) ≤ (j : Int) := by omega
    have hj3 : (j : Int) < (l.length : Int) := by omega
    have hj4 : (0 : Int) ≤ ((j + 1 : Nat) : Int) := by omega
    have hj5 : (0 : Int) ≤ (j : Int) + 1 := by omega
    have hj6 : (j : Int) + 1 < (l.length : Int) := by omega
    have hj7 : (0 : Int) < (j : Int) + 1 := by omega
    clear hno hup hg hg' hq h0 hks
    generalize l[j + 1] = v at *
    generalize (l[j]'(Nat.lt_of_succ_lt hlt)) = u at *
    obtain ⟨va, vc, vq⟩ := v
    obtain ⟨ua, uc, uq⟩ := u
    unfold Fw.at at HG
    unfold ahF at HX
    simp only at HG HX hqb
    subst hA
    cases hah : keyLt ua uc va vc with
    | true =>
     have HN := Lib.hid (HX.out _ hah)
     have HL := Lib.hid hah
     simp only [if_true] at HN
     clear HX hah
     go_wp2_with fail
     refine wp_region_held_drew (S := (fun V => Below wr.heap.size wr V)) (by kernel_rfl) (by exact (Below.refl _ _).drew) (fun hHeld => ?_)
     refine tkI 0 10 rfl (by intro w hSw; obtain ⟨⟨g0, g1, g2⟩, h0, h1, h2⟩ := HG.out _ hSw; go_simp <;> with_reducible rfl) hHeld ?_; simp only [pqZ]
     refine tkI 1 11 rfl (by intro w hSw; obtain ⟨⟨g0, g1, g2⟩, h0, h1, h2⟩ := HG.out _ hSw; go_simp <;> with_reducible rfl) hHeld ?_; simp only [pqZ]
     refine tkI 2 12 rfl (by intro w hSw; obtain ⟨⟨g0, g1, g2⟩, h0, h1, h2⟩ := HG.out _ hSw; go_simp <;> with_reducible rfl) hHeld ?_; simp only [pqZ]
     refine tkI 3 13 rfl (by intro w hSw; obtain ⟨⟨g0, g1, g2⟩, h0, h1, h2⟩ := HG.out _ hSw; go_simp <;> with_reducible rfl) hHeld ?_; simp only [pqZ]
     refine tkI 4 14 rfl (by intro w hSw; obtain ⟨⟨g0, g1, g2⟩, h0, h1, h2⟩ := HG.out _ hSw; go_simp <;> with_reducible rfl) hHeld ?_; simp only [pqZ]
     refine tkI 5 15 rfl (by intro w hSw; obtain ⟨⟨g0, g1, g2⟩, h0, h1, h2⟩ := HG.out _ hSw; go_simp <;> with_reducible rfl) hHeld ?_; simp only [pqZ]
     refine tkI 6 16 rfl (by intro w hSw; obtain ⟨⟨g0, g1, g2⟩, h0, h1, h2⟩ := HG.out _ hSw; go_simp <;> with_reducible rfl) hHeld ?_; simp only [pqZ]
     refine tkI 7 17 rfl (by intro w hSw; obtain ⟨⟨g0, g1, g2⟩, h0, h1, h2⟩ := HG.out _ hSw; go_simp <;> with_reducible rfl) hHeld ?_; simp only [pqZ]
     refine tkI 8 18 rfl (by intro w hSw; obtain ⟨⟨g0, g1, g2⟩, h0, h1, h2⟩ := HG.out _ hSw; go_simp <;> with_reducible rfl) hHeld ?_; simp only [pqZ]
     refine tkI 9 19 rfl (by intro w hSw; obtain ⟨⟨g0, g1, g2⟩, h0, h1, h2⟩ := HG.out _ hSw; go_simp <;> with_reducible rfl) hHeld ?_; simp only [pqZ]
     refine tkI 10 20 rfl (by intro w hSw; obtain ⟨⟨g0, g1, g2⟩, h0, h1, h2⟩ := HG.out _ hSw; go_simp <;> with_reducible rfl) hHeld ?_; simp only [pqZ]
     refine tkI 11 21 rfl (by intro w hSw; obtain ⟨⟨g0, g1, g2⟩, h0, h1, h2⟩ := HG.out _ hSw; go_simp <;> with_reducible rfl) hHeld ?_; simp only [pqZ]
     refine tkI 12 22 rfl (by intro w hSw; obtain ⟨⟨g0, g1, g2⟩, h0, h1, h2⟩ := HG.out _ hSw; go_simp <;> with_reducible rfl) hHeld ?_; simp only [pqZ]
     refine tkI 13 23 rfl (by intro w hSw; obtain ⟨⟨g0, g1, g2⟩, h0, h1, h2⟩ := HG.out _ hSw; go_simp <;> with_reducible rfl) hHeld ?_; simp only [pqZ]
     refine tkI 14 24 rfl (by intro w hSw; obtain ⟨⟨g0, g1, g2⟩, h0, h1, h2⟩ := HG.out _ hSw; go_simp <;> with_reducible rfl) hHeld ?_; simp only [pqZ]
     refine tkI 15 25 rfl (by intro w hSw; obtain ⟨⟨g0, g1, g2⟩, h0, h1, h2⟩ := HG.out _ hSw; go_simp <;> with_reducible rfl) hHeld ?_; simp only [pqZ]
     refine tkI 16 26 rfl (by intro w hSw; obtain ⟨⟨g0, g1, g2⟩, h0, h1, h2⟩ := HG.out _ hSw; go_simp <;> with_reducible rfl) hHeld ?_; simp only [pqZ]
     refine tkI 17 27 rfl (by intro w hSw; obtain ⟨⟨g0, g1, g2⟩, h0, h1, h2⟩ := HG.out _ hSw; go_simp <;> with_reducible rfl) hHeld ?_; simp only [pqZ]
     refine tkI 18 28 rfl (by intro w hSw; obtain ⟨⟨g0, g1, g2⟩, h0, h1, h2⟩ := HG.out _ hSw; go_simp <;> with_reducible rfl) hHeld ?_; simp only [pqZ]
     refine tkI 19 29 rfl (by intro w hSw; obtain ⟨⟨g0, g1, g2⟩, h0, h1, h2⟩ := HG.out _ hSw; go_simp <;> with_reducible rfl) hHeld ?_; simp only [pqZ]
     refine tkI 20 30 rfl (by intro w hSw; obtain ⟨⟨g0, g1, g2⟩, h0, h1, h2⟩ := HG.out _ hSw; go_simp <;> with_reducible rfl) hHeld ?_; simp only [pqZ]
     refine rdZ 21 31 rfl (by kernel_rfl) (fun K hK => ?_)
     go_simp
     refine (r15less_any _ _ _ _ _).mono ?_
     rintro e u1 ⟨rfl, hk1⟩
     have hKeep := since_step hHeld hk1
     rw [HL.out]
     go_wp2_with fail
     refine hK.out _ _ (by (try dsimp only); exact hKeep) (fun hHeld => ?_); clear hK K hKeep; try simp only [pqZ]
     refine tkI 22 32 rfl (by intro w hSw; obtain ⟨⟨g0, g1, g2⟩, h0, h1, h2⟩ := HG.out _ hSw; go_simp <;> with_reducible rfl) hHeld ?_; simp only [pqZ]
     refine tkI 23 33 rfl (by intro w hSw; obtain ⟨⟨g0, g1, g2⟩, h0, h1, h2⟩ := HG.out _ hSw; go_simp <;> with_reducible rfl) hHeld ?_; simp only [pqZ]
     refine tkI 24 34 rfl (by intro w hSw; obtain ⟨⟨g0, g1, g2⟩, h0, h1, h2⟩ := HG.out _ hSw; go_simp <;> with_reducible rfl) hHeld ?_; simp only [pqZ]
     refine wpAnyH_done (by kernel_rfl) ?_ _
     have hB2 := hB.trans (hHeld.mono hB.size)
     go_wp2_with fail
     go_roundw
     case rel => exact ⟨j + 1 + 1, by omega, by go_num, HN.out, hB2⟩
     case measure => simp [intOf]; omega
    | false =>
     have HR := Lib.hid (HX.out _ hah)
     have HL := Lib.hid hah
     simp only [Bool.false_eq_true, if_false] at HR
     clear HX hah
     go_wp2_with fail
     refine wp_region_held_drew (S := (fun V => Below wr.heap.size wr V)) (by kernel_rfl) (by exact (Below.refl _ _).drew) (fun hHeld => ?_)
     refine tkI 0 10 rfl (by intro w hSw; obtain ⟨⟨g0, g1, g2⟩, h0, h1, h2⟩ := HG.out _ hSw; go_simp <;> with_reducible rfl) hHeld ?_; simp only [pqZ]
     refine tkI 1 11 rfl (by intro w hSw; obtain ⟨⟨g0, g1, g2⟩, h0, h1, h2⟩ := HG.out _ hSw; go_simp <;> with_reducible rfl) hHeld ?_; simp only [pqZ]
     refine tkI 2 12 rfl (by intro w hSw; obtain ⟨⟨g0, g1, g2⟩, h0, h1, h2⟩ := HG.out _ hSw; go_simp <;> with_reducible rfl) hHeld ?_; simp only [pqZ]
     refine tkI 3 13 rfl (by intro w hSw; obtain ⟨⟨g0, g1, g2⟩, h0, h1, h2⟩ := HG.out _ hSw; go_simp <;> with_reducible rfl) hHeld ?_; simp only [pqZ]
     refine tkI 4 14 rfl (by intro w hSw; obtain ⟨⟨g0, g1, g2⟩, h0, h1, h2⟩ := HG.out _ hSw; go_simp <;> with_reducible rfl) hHeld ?_; simp only [pqZ]
     refine tkI 5 15 rfl (by intro w hSw; obtain ⟨⟨g0, g1, g2⟩, h0, h1, h2⟩ := HG.out _ hSw; go_simp <;> with_reducible rfl) hHeld ?_; simp only [pqZ]
     refine tkI 6 16 rfl (by intro w hSw; obtain ⟨⟨g0, g1, g2⟩, h0, h1, h2⟩ := HG.out _ hSw; go_simp <;> with_reducible rfl) hHeld ?_; simp only [pqZ]
     refine tkI 7 17 rfl (by intro w hSw; obtain ⟨⟨g0, g1, g2⟩, h0, h1, h2⟩ := HG.out _ hSw; go_simp <;> with_reducible rfl) hHeld ?_; simp only [pqZ]
     refine tkI 8 18 rfl (by intro w hSw; obtain ⟨⟨g0, g1, g2⟩, h0, h1, h2⟩ := HG.out _ hSw; go_simp <;> with_reducible rfl) hHeld ?_; simp only [pqZ]
     refine tkI 9 19 rfl (by intro w hSw; obtain ⟨⟨g0, g1, g2⟩, h0, h1, h2⟩ := HG.out _ hSw; go_simp <;> with_reducible rfl) hHeld ?_; simp only [pqZ]
     refine tkI 10 20 rfl (by intro w hSw; obtain ⟨⟨g0, g1, g2⟩, h0, h1, h2⟩ := HG.out _ hSw; go_simp <;> with_reducible rfl) hHeld ?_; simp only [pqZ]
     refine tkI 11 21 rfl (by intro w hSw; obtain ⟨⟨g0, g1, g2⟩, h0, h1, h2⟩ := HG.out _ hSw; go_simp <;> with_reducible rfl) hHeld ?_; simp only [pqZ]
     refine tkI 12 22 rfl (by intro w hSw; obtain ⟨⟨g0, g1, g2⟩, h0, h1, h2⟩ := HG.out _ hSw; go_simp <;> with_reducible rfl) hHeld ?_; simp only [pqZ]
     refine tkI 13 23 rfl (by intro w hSw; obtain ⟨⟨g0, g1, g2⟩, h0, h1, h2⟩ := HG.out _ hSw; go_simp <;> with_reducible rfl) hHeld ?_; simp only [pqZ]
     refine tkI 14 24 rfl (by intro w hSw; obtain ⟨⟨g0, g1, g2⟩, h0, h1, h2⟩ := HG.out _ hSw; go_simp <;> with_reducible rfl) hHeld ?_; simp only [pqZ]
     refine tkI 15 25 rfl (by intro w hSw; obtain ⟨⟨g0, g1, g2⟩, h0, h1, h2⟩ := HG.out _ hSw; go_simp <;> with_reducible rfl) hHeld ?_; simp only [pqZ]
     refine tkI 16 26 rfl (by intro w hSw; obtain ⟨⟨g0, g1, g2⟩, h0, h1, h2⟩ := HG.out _ hSw; go_simp <;> with_reducible rfl) hHeld ?_; simp only [pqZ]
     refine tkI 17 27 rfl (by intro w hSw; obtain ⟨⟨g0, g1, g2⟩, h0, h1, h2⟩ := HG.out _ hSw; go_simp <;> with_reducible rfl) hHeld ?_; simp only [pqZ]
     refine tkI 18 28 rfl (by intro w hSw; obtain ⟨⟨g0, g1, g2⟩, h0, h1, h2⟩ := HG.out _ hSw; go_simp <;> with_reducible rfl) hHeld ?_; simp only [pqZ]
     refine tkI 19 29 rfl (by intro w hSw; obtain ⟨⟨g0, g1, g2⟩, h0, h1, h2⟩ := HG.out _ hSw; go_simp <;> with_reducible rfl) hHeld ?_; simp only [pqZ]
     refine tkI 20 30 rfl (by intro w hSw; obtain ⟨⟨g0, g1, g2⟩, h0, h1, h2⟩ := HG.out _ hSw; go_simp <;> with_reducible rfl) hHeld ?_; simp only [pqZ]
     refine rdZ 21 31 rfl (by kernel_rfl) (fun K hK => ?_)
     go_simp
     refine (r15less_any _ _ _ _ _).mono ?_
     rintro e u1 ⟨rfl, hk1⟩
     have hKeep := since_step hHeld hk1
     rw [HL.out]
     go_wp2_with fail
     refine hK.out _ _ (by (try dsimp only); exact hKeep) (fun hHeld => ?_); clear hK K hKeep; try simp only [pqZ]
     refine tkI 22 32 rfl (by intro w hSw; obtain ⟨⟨g0, g1, g2⟩, h0, h1, h2⟩ := HG.out _ hSw; go_simp <;> with_reducible rfl) hHeld ?_; simp only [pqZ]
     refine tkI 23 33 rfl (by intro w hSw; obtain ⟨⟨g0, g1, g2⟩, h0, h1, h2⟩ := HG.out _ hSw; go_simp <;> with_reducible rfl) hHeld ?_; simp only [pqZ]
     refine tkI 24 34 rfl (by intro w hSw; obtain ⟨⟨g0, g1, g2⟩, h0, h1, h2⟩ := HG.out _ hSw; go_simp <;> with_reducible rfl) hHeld ?_; simp only [pqZ]
     refine wpAnyH_done (by kernel_rfl) ?_ _
     have hB2 := hB.trans (hHeld.mono hB.size)
     go_wp2_with fail
     go_ret
     exact ⟨retB HR.out.symm, hB2⟩
  ·obtain rfl : k = l.length := by omega
   have HR : Hid (isF l = true) := Lib.hid (isF_of ((rising_pairwise ordF l).1 ((risingL_iff ahF l).2 fun j hj => hup j hj hj)) fun x hx => by
    obtain ⟨j, hj, rfl⟩ := List.getElem_of_mem hx
    exact hno j hj hj)
   clear hno hup
   go_wp2_with fail
   go_ret
   exact ⟨retB HR.out.symm, hB⟩
theorem pget1_any (x : Fw) (z : Un) (b : Nat) (w : World) (hb : Bk w b z.cells.toArray) :
    Calls Tryz.prog 64 #[x.val, .pointer (some ⟨b, 0, none⟩)] w fun e w' => e = .returned (.bool (unF z.ac z.cl x)) ∧ Below w.heap.size w w' := by
  have hlt := hb.1
  have q0 := hb.2 0
  have q1 := hb.2 1
  have hB := since_alloc (Below.refl _ w) (.cells x.cells.toArray 50)
  obtain ⟨va, vc, vq⟩ := x
  obtain ⟨za, zc⟩ := z
  unfold Fw.val unF
  unfold Fw.cells at hB
  simp only [Un.cells] at q0 q1 hB ⊢
  simp at q0 q1
  clear hb
  by_cases h1 : va = za
  · subst h1
    by_cases h2 : vc = zc
    · subst h2
      go_enter Tryz.func64, Tryz.ntmps64
      go_wp2_with fail
      go_ret
      exact ⟨retB (by simp), hB⟩
    · have h2b : (vc == zc) = false := by simpa using h2
      go_enter Tryz.func64, Tryz.ntmps64
      go_wp2_with fail
      go_ret
      exact ⟨retB (by simp [h2]), hB⟩
  · have h1b : (va == za) = false := by simpa using h1
    go_enter Tryz.func64, Tryz.ntmps64
    go_wp2_with fail
    go_ret
    exact ⟨retB (by simp [h1]), hB⟩
theorem ent_pget1 : Ent Tryz.prog 64 := Ent.of (by kernel_rfl)
theorem tells_pget1 (z : Un) (b : Nat) (w : World) (h : Bk w b z.cells.toArray) : Fw.Tells 64 #[.pointer (some ⟨b, 0, none⟩)] (unF z.ac z.cl) w.heap.size w :=
  fun g W hW => pget1_any g z b W (h.below hW)
theorem pget_any (A : Option Addr) (cap : Nat) (l : List Fw) (a c : Int) (w : World) (hl : l.length ≤ 1000000) (hs : Sl w A (rc Fw.cells l)) :
    Calls Tryz.prog 27 #[.slice A l.length cap, .agg #[.int .i64 a, .int .i64 c]] w fun e w' => e = .returned (.int .i64 (getF l a c)) ∧ Below w.heap.size w w' := by
  obtain ⟨v, hv⟩ : ∃ v, pickL (unF a c) Fw.zero l = v := ⟨_, rfl⟩
  have HFD := Lib.hid (fun V h1 h2 => (find_fw A cap l 64 #[.pointer (some ⟨w.heap.size, 0, none⟩)] (unF a c) V hl h1 ent_pget1 h2))
  rw [show getF l a c = v.amt from by unfold getF; rw [hv]]
  rw [hv] at HFD
  obtain ⟨va, vc, vq⟩ := v
  unfold Fw.val at HFD
  simp only at HFD ⊢
  clear hv
  have hB0 := since_alloc (Below.refl _ w) (.cells #[.int .i64 a, .int .i64 c] 41)
  have hK := Bk.new w #[.int .i64 a, .int .i64 c] 41
  have hs0 := hs.alloc (.cells #[.int .i64 a, .int .i64 c] 41)
  clear hs
  go_enter Tryz.func27, Tryz.ntmps27
  go_wp2_with fail
  refine (HFD.out _ hs0 (tells_pget1 ⟨a, c⟩ _ _ hK)).mono ?_
  rintro e w1 ⟨rfl, hb1⟩
  have hB1 := since_step hB0 hb1
  have hB2 := since_alloc hB1 (.cells #[.int .i64 va, .int .i64 vc, .int .i64 vq] 50)
  go_wp2_with fail
  go_ret
  exact ⟨rfl, hB2⟩
theorem few17_any (A : Option Addr) (cap : Nat) (l : List Fw) (w : World) (hc : l.length ≤ cap) (hcm : cap ≤ maxLen) (hs : Sl w A (rc Fw.cells l)) :
    Calls Tryz.prog 17 #[.slice A l.length cap] w fun e w' => e = .returned (.slice A (l.take 20).length cap) ∧ Below w.heap.size w w' := by
  by_cases h : 20 < l.length
  · have hl : (l.take 20).length = 20 := by simp; omega
    rw [hl]
    have h40 : 20 ≤ cap := by omega
    cases A with
    | none => obtain ⟨b, o, e, _⟩ := hs.fw (k := 0) (by omega); cases e
    | some ad =>
      go_enter Tryz.func17, Tryz.ntmps17
      go_wp2
      go_ret
      exact ⟨rfl, Below.refl _ _⟩
  · have hl : (l.take 20).length = l.length := by simp; omega
    rw [hl]
    go_enter Tryz.func17, Tryz.ntmps17
    go_wp2
    go_ret
    exact ⟨rfl, Below.refl _ _⟩
end
end Go.Proofs.YtmjndpkfhdoljaaGreat
