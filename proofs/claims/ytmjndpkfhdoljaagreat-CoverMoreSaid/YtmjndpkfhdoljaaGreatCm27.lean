import Derived.Test.YtmjndpkfhdoljaaGreatCm26
set_option maxHeartbeats 16000000
set_option maxRecDepth 100000
set_option linter.unusedVariables false
set_option linter.unusedSimpArgs false
namespace Go.Proofs.YtmjndpkfhdoljaaGreat
open Go.ChangeShapes Go.WideShapes Go.ChangeAt Go.RowKit
section
theorem isLs_low {l : List Lt} {j : Nat} (h : j + 1 < l.length) (hb : ahL (l[j]'(by omega)) l[j + 1] = false) : isLs l = false := by
  unfold isLs
  rw [risingL_false h hb]; simp
theorem isLs_end {l : List Lt} (h1 : ∀ j, (hj : j < l.length) → okL l[j] = true) (h2 : ∀ j, (hj : j + 1 < l.length) → ahL (l[j]'(by omega)) l[j + 1] = true) : isLs l = decide (l.length ≤ 16) := by
  unfold isLs
  rw [all_ok h1, (risingL_iff ahL l).2 h2]; simp
theorem ris_any_Lots3 (A : Option Addr) (cap : Nat) (l : List Lt) (w : World) (hl : l.length ≤ 1000000) (hs : Sl w A (rc Lt.cells l)) :
  Calls Tryz.prog 68 #[.slice A l.length cap] w fun e w' => e = .returned (.bool (isLs l)) ∧ Below w.heap.size w w' := by
 go_enter Tryz.func68, Tryz.ntmps68
 go_wp2_with fail
 go_loopw [3] (fun i wr => ∃ k : Nat, k ≤ l.length ∧ i = .int .i64 k ∧ (∀ j, (hj : j < l.length) → j < k → okL l[j] = true) ∧ (∀ j, (hj : j + 1 < l.length) → j + 1 < k → ahL (l[j]'(by omega)) l[j + 1] = true) ∧ Below w.heap.size w wr) (fun i _ => l.length - (intOf i).toNat)
 case atStart => exact ⟨0, by omega, rfl, fun j hj h => absurd h (by omega), fun j hj h => absurd h (by omega), Below.refl _ _⟩
 case round =>
  obtain ⟨k, hk, rfl, hno, hri, hB⟩ := hrel
  by_cases hlt : k < l.length
  ·obtain ⟨b, o, rfl, hbw, hg⟩ := (hs.below hB).lt hlt
   have hlk : (k : Int) < (l.length : Int) := by omega
   have HF := Lib.hid (fun V => one_any l[k] V)
   have hk0 : (0 : Int) ≤ (k : Int) := by omega
   cases hq : okL l[k] with
   | false =>
    have HE : Hid (isLs l = false) := Lib.hid (isLs_bad hlt hq)
    rw [hq] at HF
    clear hno hri hq
    generalize l[k] = v at *
    have HX : Hid (∀ V, Below wr.heap.size wr V → Lt.at v V b (o + k * 3)) := Lib.hid fun V hV => Lt.at_keep (w := wr) hg fun i => hV.cell (p := ⟨b, i, none⟩) hbw
    unfold Lt.at at HX
    unfold Lt.val at HF
    clear hg
    go_wp2_with fail
    refine wp_region_held_drew (S := (fun V => Below wr.heap.size wr V)) (by kernel_rfl) (by exact (Below.refl _ _).drew) (fun hHeld => ?_)
    refine tkI 0 10 rfl (by intro w hSw; obtain ⟨x0, x1, x2⟩ := HX.out _ hSw; go_simp <;> with_reducible rfl) hHeld ?_; simp only [pqZ]
    refine tkI 1 11 rfl (by intro w hSw; obtain ⟨x0, x1, x2⟩ := HX.out _ hSw; go_simp <;> with_reducible rfl) hHeld ?_; simp only [pqZ]
    refine tkI 2 12 rfl (by intro w hSw; obtain ⟨x0, x1, x2⟩ := HX.out _ hSw; go_simp <;> with_reducible rfl) hHeld ?_; simp only [pqZ]
    refine tkI 3 13 rfl (by intro w hSw; obtain ⟨x0, x1, x2⟩ := HX.out _ hSw; go_simp <;> with_reducible rfl) hHeld ?_; simp only [pqZ]
    refine rdZ 4 14 rfl (by kernel_rfl) (fun K hK => ?_)
    go_simp
    refine (HF.out _).mono ?_
    rintro e y4 ⟨rfl, hk4⟩
    have hKeep := since_step hHeld hk4
    go_wp2_with fail
    refine hK.out _ _ (by (try dsimp only); exact hKeep) (fun hHeld => ?_); clear hK K hKeep; try simp only [pqZ]
    refine tkI 5 15 rfl (by intro w hSw; obtain ⟨x0, x1, x2⟩ := HX.out _ hSw; go_simp <;> with_reducible rfl) hHeld ?_; simp only [pqZ]
    refine tkI 6 16 rfl (by intro w hSw; obtain ⟨x0, x1, x2⟩ := HX.out _ hSw; go_simp <;> with_reducible rfl) hHeld ?_; simp only [pqZ]
    refine tkO 7 17 rfl (by kernel_rfl) (by rfl) hHeld ?_; simp only [pqZ]
    refine tkO 8 18 rfl (by kernel_rfl) (by rfl) hHeld ?_; simp only [pqZ]
    refine tkO 9 19 rfl (by kernel_rfl) (by rfl) hHeld ?_; simp only [pqZ]
    refine tkO 10 20 rfl (by kernel_rfl) (by rfl) hHeld ?_; simp only [pqZ]
    refine tkO 11 21 rfl (by kernel_rfl) (by rfl) hHeld ?_; simp only [pqZ]
    refine tkO 12 22 rfl (by kernel_rfl) (by rfl) hHeld ?_; simp only [pqZ]
    refine tkO 13 23 rfl (by kernel_rfl) (by rfl) hHeld ?_; simp only [pqZ]
    refine tkO 14 24 rfl (by kernel_rfl) (by rfl) hHeld ?_; simp only [pqZ]
    refine tkO 15 25 rfl (by kernel_rfl) (by rfl) hHeld ?_; simp only [pqZ]
    refine tkO 16 26 rfl (by kernel_rfl) (by rfl) hHeld ?_; simp only [pqZ]
    refine tkO 17 27 rfl (by kernel_rfl) (by rfl) hHeld ?_; simp only [pqZ]
    refine tkO 18 28 rfl (by kernel_rfl) (by rfl) hHeld ?_; simp only [pqZ]
    refine tkO 19 29 rfl (by kernel_rfl) (by rfl) hHeld ?_; simp only [pqZ]
    refine tkO 20 30 rfl (by kernel_rfl) (by rfl) hHeld ?_; simp only [pqZ]
    refine tkO 21 31 rfl (by kernel_rfl) (by rfl) hHeld ?_; simp only [pqZ]
    refine tkI 22 32 rfl (by intro w hSw; obtain ⟨x0, x1, x2⟩ := HX.out _ hSw; go_simp <;> with_reducible rfl) hHeld ?_; simp only [pqZ]
    refine wpAnyH_done (by kernel_rfl) ?_ _
    have hB2 := hB.trans (hHeld.mono hB.size)
    go_wp2_with fail
    go_ret
    exact ⟨retB HE.out.symm, hB2⟩
   | true =>
    have HN1 : Hid (∀ j, (hj : j < l.length) → j < k + 1 → okL l[j] = true) := Lib.hid (fun j hj hjk => by
     rcases Nat.lt_or_ge j k with h' | h'
     ·exact hno j hj h'
     ·obtain rfl : j = k := by omega
      exact hq)
    rw [hq] at HF
    clear hno hq
    rcases Nat.eq_zero_or_pos k with hz | hz
    ·have HN2 : Hid (∀ j, (hj : j + 1 < l.length) → j + 1 < k + 1 → ahL (l[j]'(by omega)) l[j + 1] = true) := Lib.hid (fun j hj h => absurd h (by omega))
     clear hri
     generalize l[k] = v at *
     have HX : Hid (∀ V, Below wr.heap.size wr V → Lt.at v V b (o + k * 3)) := Lib.hid fun V hV => Lt.at_keep (w := wr) hg fun i => hV.cell (p := ⟨b, i, none⟩) hbw
     have hzi : ¬ (0 : Int) < (k : Int) := by omega
     have hzd : decide ((0 : Int) < (k : Int)) = false := decide_eq_false hzi
     have hzn : ¬ 0 < k := by omega
     clear hz
     unfold Lt.at at HX
     unfold Lt.val at HF
     clear hg
     go_wp2_with fail
     refine wp_region_held_drew (S := (fun V => Below wr.heap.size wr V)) (by kernel_rfl) (by exact (Below.refl _ _).drew) (fun hHeld => ?_)
     refine tkI 0 10 rfl (by intro w hSw; obtain ⟨x0, x1, x2⟩ := HX.out _ hSw; go_simp <;> with_reducible rfl) hHeld ?_; simp only [pqZ]
     refine tkI 1 11 rfl (by intro w hSw; obtain ⟨x0, x1, x2⟩ := HX.out _ hSw; go_simp <;> with_reducible rfl) hHeld ?_; simp only [pqZ]
     refine tkI 2 12 rfl (by intro w hSw; obtain ⟨x0, x1, x2⟩ := HX.out _ hSw; go_simp <;> with_reducible rfl) hHeld ?_; simp only [pqZ]
     refine tkI 3 13 rfl (by intro w hSw; obtain ⟨x0, x1, x2⟩ := HX.out _ hSw; go_simp <;> with_reducible rfl) hHeld ?_; simp only [pqZ]
     refine rdZ 4 14 rfl (by kernel_rfl) (fun K hK => ?_)
     go_simp
     refine (HF.out _).mono ?_
     rintro e y4 ⟨rfl, hk4⟩
     have hKeep := since_step hHeld hk4
     go_wp2_with fail
     refine hK.out _ _ (by (try dsimp only); exact hKeep) (fun hHeld => ?_); clear hK K hKeep; try simp only [pqZ]
     refine tkI 5 15 rfl (by intro w hSw; obtain ⟨x0, x1, x2⟩ := HX.out _ hSw; go_simp <;> with_reducible rfl) hHeld ?_; simp only [pqZ]
     refine tkI 6 16 rfl (by intro w hSw; obtain ⟨x0, x1, x2⟩ := HX.out _ hSw; go_simp <;> with_reducible rfl) hHeld ?_; simp only [pqZ]
     refine tkI 7 17 rfl (by intro w hSw; obtain ⟨x0, x1, x2⟩ := HX.out _ hSw; go_simp <;> with_reducible rfl) hHeld ?_; simp only [pqZ]
     refine tkI 8 18 rfl (by intro w hSw; obtain ⟨x0, x1, x2⟩ := HX.out _ hSw; go_simp <;> with_reducible rfl) hHeld ?_; simp only [pqZ]
     refine tkI 9 19 rfl (by intro w hSw; obtain ⟨x0, x1, x2⟩ := HX.out _ hSw; go_simp <;> with_reducible rfl) hHeld ?_; simp only [pqZ]
     refine tkO 10 20 rfl (by kernel_rfl) (by rfl) hHeld ?_; simp only [pqZ]
     refine tkO 11 21 rfl (by kernel_rfl) (by rfl) hHeld ?_; simp only [pqZ]
     refine tkO 12 22 rfl (by kernel_rfl) (by rfl) hHeld ?_; simp only [pqZ]
     refine tkO 13 23 rfl (by kernel_rfl) (by rfl) hHeld ?_; simp only [pqZ]
     refine tkO 14 24 rfl (by kernel_rfl) (by rfl) hHeld ?_; simp only [pqZ]
     refine tkO 15 25 rfl (by kernel_rfl) (by rfl) hHeld ?_; simp only [pqZ]
     refine tkO 16 26 rfl (by kernel_rfl) (by rfl) hHeld ?_; simp only [pqZ]
     refine tkO 17 27 rfl (by kernel_rfl) (by rfl) hHeld ?_; simp only [pqZ]
     refine tkO 18 28 rfl (by kernel_rfl) (by rfl) hHeld ?_; simp only [pqZ]
     refine tkO 19 29 rfl (by kernel_rfl) (by rfl) hHeld ?_; simp only [pqZ]
     refine tkO 20 30 rfl (by kernel_rfl) (by rfl) hHeld ?_; simp only [pqZ]
     refine tkI 21 31 rfl (by intro w hSw; obtain ⟨x0, x1, x2⟩ := HX.out _ hSw; go_simp <;> with_reducible rfl) hHeld ?_; simp only [pqZ]
     refine tkI 22 32 rfl (by intro w hSw; obtain ⟨x0, x1, x2⟩ := HX.out _ hSw; go_simp <;> with_reducible rfl) hHeld ?_; simp only [pqZ]
     refine wpAnyH_done (by kernel_rfl) ?_ _
     have hB2 := hB.trans (hHeld.mono hB.size)
     go_wp2_with fail
     go_roundw
     case rel => exact ⟨k + 1, by omega, by go_num, HN1.out, HN2.out, hB2⟩
     case measure => simp [intOf]; omega
    ·obtain ⟨j, rfl⟩ : ∃ j, k = j + 1 := ⟨k - 1, by omega⟩
     obtain ⟨b', o', e, _, hg'⟩ := (hs.below hB).lt (k := j) (by omega)
     injection e with e
     injection e with e1 e2 e3
     subst e1; subst e2
     have hj1 : IntKind.i64.wrap (j : Int) = (j : Int) := IntWalk.i64_in _ (by omega)
     have hj2 : (0 : Int) ≤ (j : Int) := by omega
     have hj3 : (j : Int) < (l.length : Int) := by omega
     have hj4 : (0 : Int) ≤ ((j + 1 : Nat) : Int) := by omega
     have hj5 : (0 : Int) ≤ (j : Int) + 1 := by omega
     have hj6 : (j : Int) + 1 < (l.length : Int) := by omega
     have hj7 : (0 : Int) < (j : Int) + 1 := by omega
     have HXU : Hid (∀ V, Below wr.heap.size wr V → l[j + 1].at V b (o + (j + 1) * 3) ∧ (l[j]'(by omega)).at V b (o + j * 3)) := Lib.hid fun V hV => ⟨Lt.at_keep (w := wr) hg fun i => hV.cell (p := ⟨b, i, none⟩) hbw, Lt.at_keep (w := wr) hg' fun i => hV.cell (p := ⟨b, i, none⟩) hbw⟩
     have HX := HXU
     have HL := Lib.hid (fun V => rless_any (l[j]'(by omega)) l[j + 1] V)
     clear HXU hg hg'
     cases ha : ahL (l[j]'(by omega)) l[j + 1] with
     | true =>
      have HN2 : Hid (∀ i, (hi : i + 1 < l.length) → i + 1 < j + 1 + 1 → ahL (l[i]'(by omega)) l[i + 1] = true) := Lib.hid (fun i hi h => by
       rcases Nat.lt_or_ge i j with h' | h'
       ·exact hri i hi (by omega)
       ·obtain rfl : i = j := by omega
        exact ha)
      rw [ha] at HL
      clear hri ha
      generalize l[j + 1] = x at *
      obtain ⟨y, hy⟩ : ∃ y, (l[j]'(by omega)) = y := ⟨_, rfl⟩
      rw [hy] at HX HL
      clear hy
      unfold Lt.at at HX
      unfold Lt.val at HF HL
      go_wp2_with fail
      refine wp_region_held_drew (S := (fun V => Below wr.heap.size wr V)) (by kernel_rfl) (by exact (Below.refl _ _).drew) (fun hHeld => ?_)
      refine tkI 0 10 rfl (by intro w hSw; obtain ⟨⟨x0, x1, x2⟩, y0, y1, y2⟩ := HX.out _ hSw; go_simp <;> with_reducible rfl) hHeld ?_; simp only [pqZ]
      refine tkI 1 11 rfl (by intro w hSw; obtain ⟨⟨x0, x1, x2⟩, y0, y1, y2⟩ := HX.out _ hSw; go_simp <;> with_reducible rfl) hHeld ?_; simp only [pqZ]
      refine tkI 2 12 rfl (by intro w hSw; obtain ⟨⟨x0, x1, x2⟩, y0, y1, y2⟩ := HX.out _ hSw; go_simp <;> with_reducible rfl) hHeld ?_; simp only [pqZ]
      refine tkI 3 13 rfl (by intro w hSw; obtain ⟨⟨x0, x1, x2⟩, y0, y1, y2⟩ := HX.out _ hSw; go_simp <;> with_reducible rfl) hHeld ?_; simp only [pqZ]
      refine rdZ 4 14 rfl (by kernel_rfl) (fun K hK => ?_)
      go_simp
      refine (HF.out _).mono ?_
      rintro e y4 ⟨rfl, hk4⟩
      have hKeep := since_step hHeld hk4
      go_wp2_with fail
      refine hK.out _ _ (by (try dsimp only); exact hKeep) (fun hHeld => ?_); clear hK K hKeep; try simp only [pqZ]
      refine tkI 5 15 rfl (by intro w hSw; obtain ⟨⟨x0, x1, x2⟩, y0, y1, y2⟩ := HX.out _ hSw; go_simp <;> with_reducible rfl) hHeld ?_; simp only [pqZ]
      refine tkI 6 16 rfl (by intro w hSw; obtain ⟨⟨x0, x1, x2⟩, y0, y1, y2⟩ := HX.out _ hSw; go_simp <;> with_reducible rfl) hHeld ?_; simp only [pqZ]
      refine tkI 7 17 rfl (by intro w hSw; obtain ⟨⟨x0, x1, x2⟩, y0, y1, y2⟩ := HX.out _ hSw; go_simp <;> with_reducible rfl) hHeld ?_; simp only [pqZ]
      refine tkI 8 18 rfl (by intro w hSw; obtain ⟨⟨x0, x1, x2⟩, y0, y1, y2⟩ := HX.out _ hSw; go_simp <;> with_reducible rfl) hHeld ?_; simp only [pqZ]
      refine tkI 9 19 rfl (by intro w hSw; obtain ⟨⟨x0, x1, x2⟩, y0, y1, y2⟩ := HX.out _ hSw; go_simp <;> with_reducible rfl) hHeld ?_; simp only [pqZ]
      refine tkI 10 20 rfl (by intro w hSw; obtain ⟨⟨x0, x1, x2⟩, y0, y1, y2⟩ := HX.out _ hSw; go_simp <;> with_reducible rfl) hHeld ?_; simp only [pqZ]
      refine tkI 11 21 rfl (by intro w hSw; obtain ⟨⟨x0, x1, x2⟩, y0, y1, y2⟩ := HX.out _ hSw; go_simp <;> with_reducible rfl) hHeld ?_; simp only [pqZ]
      refine tkI 12 22 rfl (by intro w hSw; obtain ⟨⟨x0, x1, x2⟩, y0, y1, y2⟩ := HX.out _ hSw; go_simp <;> with_reducible rfl) hHeld ?_; simp only [pqZ]
      refine tkI 13 23 rfl (by intro w hSw; obtain ⟨⟨x0, x1, x2⟩, y0, y1, y2⟩ := HX.out _ hSw; go_simp <;> with_reducible rfl) hHeld ?_; simp only [pqZ]
      refine tkI 14 24 rfl (by intro w hSw; obtain ⟨⟨x0, x1, x2⟩, y0, y1, y2⟩ := HX.out _ hSw; go_simp <;> with_reducible rfl) hHeld ?_; simp only [pqZ]
      refine tkI 15 25 rfl (by intro w hSw; obtain ⟨⟨x0, x1, x2⟩, y0, y1, y2⟩ := HX.out _ hSw; go_simp <;> with_reducible rfl) hHeld ?_; simp only [pqZ]
      refine tkI 16 26 rfl (by intro w hSw; obtain ⟨⟨x0, x1, x2⟩, y0, y1, y2⟩ := HX.out _ hSw; go_simp <;> with_reducible rfl) hHeld ?_; simp only [pqZ]
      refine tkI 17 27 rfl (by intro w hSw; obtain ⟨⟨x0, x1, x2⟩, y0, y1, y2⟩ := HX.out _ hSw; go_simp <;> with_reducible rfl) hHeld ?_; simp only [pqZ]
      refine tkI 18 28 rfl (by intro w hSw; obtain ⟨⟨x0, x1, x2⟩, y0, y1, y2⟩ := HX.out _ hSw; go_simp <;> with_reducible rfl) hHeld ?_; simp only [pqZ]
      refine rdZ 19 29 rfl (by kernel_rfl) (fun K hK => ?_)
      go_simp
      refine (HL.out _).mono ?_
      rintro e y19 ⟨rfl, hk19⟩
      have hKeep := since_step hHeld hk19
      go_wp2_with fail
      refine hK.out _ _ (by (try dsimp only); exact hKeep) (fun hHeld => ?_); clear hK K hKeep; try simp only [pqZ]
      refine tkI 20 30 rfl (by intro w hSw; obtain ⟨⟨x0, x1, x2⟩, y0, y1, y2⟩ := HX.out _ hSw; go_simp <;> with_reducible rfl) hHeld ?_; simp only [pqZ]
      refine tkI 21 31 rfl (by intro w hSw; obtain ⟨⟨x0, x1, x2⟩, y0, y1, y2⟩ := HX.out _ hSw; go_simp <;> with_reducible rfl) hHeld ?_; simp only [pqZ]
      refine tkI 22 32 rfl (by intro w hSw; obtain ⟨⟨x0, x1, x2⟩, y0, y1, y2⟩ := HX.out _ hSw; go_simp <;> with_reducible rfl) hHeld ?_; simp only [pqZ]
      refine wpAnyH_done (by kernel_rfl) ?_ _
      have hB2 := hB.trans (hHeld.mono hB.size)
      go_wp2_with fail
      go_roundw
      case rel => exact ⟨j + 1 + 1, by omega, by go_num, HN1.out, HN2.out, hB2⟩
      case measure => simp [intOf]; omega
     | false =>
      have HE : Hid (isLs l = false) := Lib.hid (isLs_low hlt ha)
      rw [ha] at HL
      clear hri ha HN1
      generalize l[j + 1] = x at *
      obtain ⟨y, hy⟩ : ∃ y, (l[j]'(by omega)) = y := ⟨_, rfl⟩
      rw [hy] at HX HL
      clear hy
      unfold Lt.at at HX
      unfold Lt.val at HF HL
      go_wp2_with fail
      refine wp_region_held_drew (S := (fun V => Below wr.heap.size wr V)) (by kernel_rfl) (by exact (Below.refl _ _).drew) (fun hHeld => ?_)
      refine tkI 0 10 rfl (by intro w hSw; obtain ⟨⟨x0, x1, x2⟩, y0, y1, y2⟩ := HX.out _ hSw; go_simp <;> with_reducible rfl) hHeld ?_; simp only [pqZ]
      refine tkI 1 11 rfl (by intro w hSw; obtain ⟨⟨x0, x1, x2⟩, y0, y1, y2⟩ := HX.out _ hSw; go_simp <;> with_reducible rfl) hHeld ?_; simp only [pqZ]
      refine tkI 2 12 rfl (by intro w hSw; obtain ⟨⟨x0, x1, x2⟩, y0, y1, y2⟩ := HX.out _ hSw; go_simp <;> with_reducible rfl) hHeld ?_; simp only [pqZ]
      refine tkI 3 13 rfl (by intro w hSw; obtain ⟨⟨x0, x1, x2⟩, y0, y1, y2⟩ := HX.out _ hSw; go_simp <;> with_reducible rfl) hHeld ?_; simp only [pqZ]
      refine rdZ 4 14 rfl (by kernel_rfl) (fun K hK => ?_)
      go_simp
      refine (HF.out _).mono ?_
      rintro e y4 ⟨rfl, hk4⟩
      have hKeep := since_step hHeld hk4
      go_wp2_with fail
      refine hK.out _ _ (by (try dsimp only); exact hKeep) (fun hHeld => ?_); clear hK K hKeep; try simp only [pqZ]
      refine tkI 5 15 rfl (by intro w hSw; obtain ⟨⟨x0, x1, x2⟩, y0, y1, y2⟩ := HX.out _ hSw; go_simp <;> with_reducible rfl) hHeld ?_; simp only [pqZ]
      refine tkI 6 16 rfl (by intro w hSw; obtain ⟨⟨x0, x1, x2⟩, y0, y1, y2⟩ := HX.out _ hSw; go_simp <;> with_reducible rfl) hHeld ?_; simp only [pqZ]
      refine tkI 7 17 rfl (by intro w hSw; obtain ⟨⟨x0, x1, x2⟩, y0, y1, y2⟩ := HX.out _ hSw; go_simp <;> with_reducible rfl) hHeld ?_; simp only [pqZ]
      refine tkI 8 18 rfl (by intro w hSw; obtain ⟨⟨x0, x1, x2⟩, y0, y1, y2⟩ := HX.out _ hSw; go_simp <;> with_reducible rfl) hHeld ?_; simp only [pqZ]
      refine tkI 9 19 rfl (by intro w hSw; obtain ⟨⟨x0, x1, x2⟩, y0, y1, y2⟩ := HX.out _ hSw; go_simp <;> with_reducible rfl) hHeld ?_; simp only [pqZ]
      refine tkI 10 20 rfl (by intro w hSw; obtain ⟨⟨x0, x1, x2⟩, y0, y1, y2⟩ := HX.out _ hSw; go_simp <;> with_reducible rfl) hHeld ?_; simp only [pqZ]
      refine tkI 11 21 rfl (by intro w hSw; obtain ⟨⟨x0, x1, x2⟩, y0, y1, y2⟩ := HX.out _ hSw; go_simp <;> with_reducible rfl) hHeld ?_; simp only [pqZ]
      refine tkI 12 22 rfl (by intro w hSw; obtain ⟨⟨x0, x1, x2⟩, y0, y1, y2⟩ := HX.out _ hSw; go_simp <;> with_reducible rfl) hHeld ?_; simp only [pqZ]
      refine tkI 13 23 rfl (by intro w hSw; obtain ⟨⟨x0, x1, x2⟩, y0, y1, y2⟩ := HX.out _ hSw; go_simp <;> with_reducible rfl) hHeld ?_; simp only [pqZ]
      refine tkI 14 24 rfl (by intro w hSw; obtain ⟨⟨x0, x1, x2⟩, y0, y1, y2⟩ := HX.out _ hSw; go_simp <;> with_reducible rfl) hHeld ?_; simp only [pqZ]
      refine tkI 15 25 rfl (by intro w hSw; obtain ⟨⟨x0, x1, x2⟩, y0, y1, y2⟩ := HX.out _ hSw; go_simp <;> with_reducible rfl) hHeld ?_; simp only [pqZ]
      refine tkI 16 26 rfl (by intro w hSw; obtain ⟨⟨x0, x1, x2⟩, y0, y1, y2⟩ := HX.out _ hSw; go_simp <;> with_reducible rfl) hHeld ?_; simp only [pqZ]
      refine tkI 17 27 rfl (by intro w hSw; obtain ⟨⟨x0, x1, x2⟩, y0, y1, y2⟩ := HX.out _ hSw; go_simp <;> with_reducible rfl) hHeld ?_; simp only [pqZ]
      refine tkI 18 28 rfl (by intro w hSw; obtain ⟨⟨x0, x1, x2⟩, y0, y1, y2⟩ := HX.out _ hSw; go_simp <;> with_reducible rfl) hHeld ?_; simp only [pqZ]
      refine rdZ 19 29 rfl (by kernel_rfl) (fun K hK => ?_)
      go_simp
      refine (HL.out _).mono ?_
      rintro e y19 ⟨rfl, hk19⟩
      have hKeep := since_step hHeld hk19
      go_wp2_with fail
      refine hK.out _ _ (by (try dsimp only); exact hKeep) (fun hHeld => ?_); clear hK K hKeep; try simp only [pqZ]
      refine tkI 20 30 rfl (by intro w hSw; obtain ⟨⟨x0, x1, x2⟩, y0, y1, y2⟩ := HX.out _ hSw; go_simp <;> with_reducible rfl) hHeld ?_; simp only [pqZ]
      refine tkI 21 31 rfl (by intro w hSw; obtain ⟨⟨x0, x1, x2⟩, y0, y1, y2⟩ := HX.out _ hSw; go_simp <;> with_reducible rfl) hHeld ?_; simp only [pqZ]
      refine tkI 22 32 rfl (by intro w hSw; obtain ⟨⟨x0, x1, x2⟩, y0, y1, y2⟩ := HX.out _ hSw; go_simp <;> with_reducible rfl) hHeld ?_; simp only [pqZ]
      refine wpAnyH_done (by kernel_rfl) ?_ _
      have hB2 := hB.trans (hHeld.mono hB.size)
      go_wp2_with fail
      go_ret
      exact ⟨retB HE.out.symm, hB2⟩
  ·obtain rfl : k = l.length := by omega
   have HE : Hid (isLs l = decide ((l.length : Int) ≤ 16)) := Lib.hid (by rw [isLs_end (fun j hj => hno j hj hj) (fun j hj => hri j hj hj)]; simp only [decide_eq_decide]; omega)
   clear hno hri
   go_wp2_with fail
   go_ret
   exact ⟨retB HE.out.symm, hB⟩
end
end Go.Proofs.YtmjndpkfhdoljaaGreat
