import Derived.Test.YtlbccpiadmcpjaaCv11
section
namespace Go.Proofs.Ytlbccpiadmcpjaa
open Go.ChangeShapes Go.WideShapes Go.ChangeAt Go.RowKit
set_option linter.unusedVariables false
set_option linter.unusedSimpArgs false

theorem isLs_low {l : List Lt} {j : Nat} (h : j + 1 < l.length) (hb : ahL (l[j]'(by omega)) l[j + 1] = false) : isLs l = false := by
  unfold isLs
  rw [risingL_false h hb]; simp
theorem isLs_end {l : List Lt} (h1 : ∀ j, (hj : j < l.length) → okL l[j] = true) (h2 : ∀ j, (hj : j + 1 < l.length) → ahL (l[j]'(by omega)) l[j + 1] = true) : isLs l = decide (l.length ≤ 16) := by
  unfold isLs
  rw [all_ok h1, (risingL_iff ahL l).2 h2]; simp
set_option maxHeartbeats 4000000 in
set_option maxRecDepth 100000 in
theorem ris_any (A : Option Addr) (cap : Nat) (l : List Lt) (w : World) (hl : l.length ≤ 1000000) (hs : Sl w A (rc Lt.cells l)) :
    Calls Try.prog 26 #[.slice A l.length cap] w fun e w' => e = .returned (.bool (isLs l)) ∧ Below w.heap.size w w' := by
  go_enter Try.func26, Try.ntmps26
  go_wp2_with fail
  go_loopw [3] (fun i wr => ∃ k : Nat, k ≤ l.length ∧ i = .int .i64 k ∧ (∀ j, (hj : j < l.length) → j < k → okL l[j] = true) ∧ (∀ j, (hj : j + 1 < l.length) → j + 1 < k → ahL (l[j]'(by omega)) l[j + 1] = true) ∧ Below w.heap.size w wr) (fun i _ => l.length - (intOf i).toNat)
  case atStart => exact ⟨0, by omega, rfl, fun j hj h => absurd h (by omega), fun j hj h => absurd h (by omega), Below.refl _ _⟩
  case round =>
    obtain ⟨k, hk, rfl, hno, hri, hB⟩ := hrel
    by_cases hlt : k < l.length
    · obtain ⟨b, o, rfl, hbw, hg⟩ := (hs.below hB).lt hlt
      have hlk : (k : Int) < (l.length : Int) := by omega
      have HF := Lib.hid (fun V => one_any l[k] V)
      have hk0 : (0 : Int) ≤ (k : Int) := by omega
      cases hq : okL l[k] with
      | false =>
        have HE : Hid (isLs l = false) := Lib.hid (isLs_bad hlt hq)
        rw [hq] at HF
        clear hno hri hq
        generalize l[k] = v at *
        have HX : Hid (∀ V, Below wr.heap.size wr V → Lt.at v V b (o + k * 3)) := Lib.hid fun V hV => Lt.at_keep (w := wr) hg fun i => hV.cell (p := ⟨b, i, none⟩) hbw
        unfold Lt.at at HX
        unfold Lt.val at HF
        clear hg
        go_wp2_with fail
        refine wp_region_held_drew (S := (fun V => Below wr.heap.size wr V)) (by kernel_rfl) (by exact (Below.refl _ _).drew) (fun hHeld => ?_)
        refine tkZ (i := 0) (oi := ⟨some 10, _, _, _, _, _⟩) (v := ?_) rfl (by kernel_rfl) (fun _ _ _ h => h) (Or.inl ⟨by rfl, ?_⟩) hHeld ?_
        rotate_left
        · (intro w hSw; obtain ⟨x0, x1, x2⟩ := HX.out _ hSw; go_simp <;> with_reducible rfl)
        try simp only [pqZ]
        refine tkZ (i := 1) (oi := ⟨some 11, _, _, _, _, _⟩) (v := ?_) rfl (by kernel_rfl) (fun _ _ _ h => h) (Or.inl ⟨by rfl, ?_⟩) hHeld ?_
        rotate_left
        · (intro w hSw; obtain ⟨x0, x1, x2⟩ := HX.out _ hSw; go_simp <;> with_reducible rfl)
        try simp only [pqZ]
        refine tkZ (i := 2) (oi := ⟨some 12, _, _, _, _, _⟩) (v := ?_) rfl (by kernel_rfl) (fun _ _ _ h => h) (Or.inl ⟨by rfl, ?_⟩) hHeld ?_
        rotate_left
        · (intro w hSw; obtain ⟨x0, x1, x2⟩ := HX.out _ hSw; go_simp <;> with_reducible rfl)
        try simp only [pqZ]
        refine tkZ (i := 3) (oi := ⟨some 13, _, _, _, _, _⟩) (v := ?_) rfl (by kernel_rfl) (fun _ _ _ h => h) (Or.inl ⟨by rfl, ?_⟩) hHeld ?_
        rotate_left
        · (intro w hSw; obtain ⟨x0, x1, x2⟩ := HX.out _ hSw; go_simp <;> with_reducible rfl)
        try simp only [pqZ]
        refine wpAnyH_ready (rs := [4]) (by kernel_rfl) (by simp) ?_
        refine AllReadyH.cons (o := ⟨some 14, _, _, _, _, _⟩) rfl (fun K hK => ?_) AllReadyH.nil
        go_simp
        refine (HF.out _).mono ?_
        rintro e y4 ⟨rfl, hk4⟩
        have hKeep := since_step hHeld hk4
        go_wp2_with fail
        refine hK.out _ _ (by (try dsimp only); exact hKeep) (fun hHeld => ?_)
        clear hK K hKeep
        try simp only [pqZ]
        refine tkZ (i := 5) (oi := ⟨some 15, _, _, _, _, _⟩) (v := ?_) rfl (by kernel_rfl) (fun _ _ _ h => h) (Or.inl ⟨by rfl, ?_⟩) hHeld ?_
        rotate_left
        · (intro w hSw; obtain ⟨x0, x1, x2⟩ := HX.out _ hSw; go_simp <;> with_reducible rfl)
        try simp only [pqZ]
        refine tkZ (i := 6) (oi := ⟨some 16, _, _, _, _, _⟩) (v := ?_) rfl (by kernel_rfl) (fun _ _ _ h => h) (Or.inl ⟨by rfl, ?_⟩) hHeld ?_
        rotate_left
        · (intro w hSw; obtain ⟨x0, x1, x2⟩ := HX.out _ hSw; go_simp <;> with_reducible rfl)
        try simp only [pqZ]
        refine tkZ (i := 7) (oi := ⟨some 17, _, _, _, _, _⟩) (v := undef) rfl (by kernel_rfl) (fun _ _ _ h => h) (Or.inr ⟨by rfl, rfl⟩) hHeld ?_
        try simp only [pqZ]
        refine tkZ (i := 8) (oi := ⟨some 18, _, _, _, _, _⟩) (v := undef) rfl (by kernel_rfl) (fun _ _ _ h => h) (Or.inr ⟨by rfl, rfl⟩) hHeld ?_
        try simp only [pqZ]
        refine tkZ (i := 9) (oi := ⟨some 19, _, _, _, _, _⟩) (v := undef) rfl (by kernel_rfl) (fun _ _ _ h => h) (Or.inr ⟨by rfl, rfl⟩) hHeld ?_
        try simp only [pqZ]
        refine tkZ (i := 10) (oi := ⟨some 20, _, _, _, _, _⟩) (v := undef) rfl (by kernel_rfl) (fun _ _ _ h => h) (Or.inr ⟨by rfl, rfl⟩) hHeld ?_
        try simp only [pqZ]
        refine tkZ (i := 11) (oi := ⟨some 21, _, _, _, _, _⟩) (v := undef) rfl (by kernel_rfl) (fun _ _ _ h => h) (Or.inr ⟨by rfl, rfl⟩) hHeld ?_
        try simp only [pqZ]
        refine tkZ (i := 12) (oi := ⟨some 22, _, _, _, _, _⟩) (v := undef) rfl (by kernel_rfl) (fun _ _ _ h => h) (Or.inr ⟨by rfl, rfl⟩) hHeld ?_
        try simp only [pqZ]
        refine tkZ (i := 13) (oi := ⟨some 23, _, _, _, _, _⟩) (v := undef) rfl (by kernel_rfl) (fun _ _ _ h => h) (Or.inr ⟨by rfl, rfl⟩) hHeld ?_
        try simp only [pqZ]
        refine tkZ (i := 14) (oi := ⟨some 24, _, _, _, _, _⟩) (v := undef) rfl (by kernel_rfl) (fun _ _ _ h => h) (Or.inr ⟨by rfl, rfl⟩) hHeld ?_
        try simp only [pqZ]
        refine tkZ (i := 15) (oi := ⟨some 25, _, _, _, _, _⟩) (v := undef) rfl (by kernel_rfl) (fun _ _ _ h => h) (Or.inr ⟨by rfl, rfl⟩) hHeld ?_
        try simp only [pqZ]
        refine tkZ (i := 16) (oi := ⟨some 26, _, _, _, _, _⟩) (v := undef) rfl (by kernel_rfl) (fun _ _ _ h => h) (Or.inr ⟨by rfl, rfl⟩) hHeld ?_
        try simp only [pqZ]
        refine tkZ (i := 17) (oi := ⟨some 27, _, _, _, _, _⟩) (v := undef) rfl (by kernel_rfl) (fun _ _ _ h => h) (Or.inr ⟨by rfl, rfl⟩) hHeld ?_
        try simp only [pqZ]
        refine tkZ (i := 18) (oi := ⟨some 28, _, _, _, _, _⟩) (v := undef) rfl (by kernel_rfl) (fun _ _ _ h => h) (Or.inr ⟨by rfl, rfl⟩) hHeld ?_
        try simp only [pqZ]
        refine tkZ (i := 19) (oi := ⟨some 29, _, _, _, _, _⟩) (v := undef) rfl (by kernel_rfl) (fun _ _ _ h => h) (Or.inr ⟨by rfl, rfl⟩) hHeld ?_
        try simp only [pqZ]
        refine tkZ (i := 20) (oi := ⟨some 30, _, _, _, _, _⟩) (v := undef) rfl (by kernel_rfl) (fun _ _ _ h => h) (Or.inr ⟨by rfl, rfl⟩) hHeld ?_
        try simp only [pqZ]
        refine tkZ (i := 21) (oi := ⟨some 31, _, _, _, _, _⟩) (v := undef) rfl (by kernel_rfl) (fun _ _ _ h => h) (Or.inr ⟨by rfl, rfl⟩) hHeld ?_
        try simp only [pqZ]
        refine tkZ (i := 22) (oi := ⟨some 32, _, _, _, _, _⟩) (v := ?_) rfl (by kernel_rfl) (fun _ _ _ h => h) (Or.inl ⟨by rfl, ?_⟩) hHeld ?_
        rotate_left
        · (intro w hSw; obtain ⟨x0, x1, x2⟩ := HX.out _ hSw; go_simp <;> with_reducible rfl)
        try simp only [pqZ]
        refine wpAnyH_done (by kernel_rfl) ?_ _
        have hB2 := hB.trans (hHeld.mono hB.size)
        go_wp2_with fail
        go_ret
        exact ⟨retB HE.out.symm, hB2⟩
      | true =>
        have HN1 : Hid (∀ j, (hj : j < l.length) → j < k + 1 → okL l[j] = true) := Lib.hid (fun j hj hjk => by
          rcases Nat.lt_or_ge j k with h' | h'
          · exact hno j hj h'
          · obtain rfl : j = k := by omega
            exact hq)
        rw [hq] at HF
        clear hno hq
        rcases Nat.eq_zero_or_pos k with hz | hz
        · have HN2 : Hid (∀ j, (hj : j + 1 < l.length) → j + 1 < k + 1 → ahL (l[j]'(by omega)) l[j + 1] = true) := Lib.hid (fun j hj h => absurd h (by omega))
          clear hri
          generalize l[k] = v at *
          have HX : Hid (∀ V, Below wr.heap.size wr V → Lt.at v V b (o + k * 3)) := Lib.hid fun V hV => Lt.at_keep (w := wr) hg fun i => hV.cell (p := ⟨b, i, none⟩) hbw
          have hzi : ¬ (0 : Int) < (k : Int) := by omega
          have hzd : decide ((0 : Int) < (k : Int)) = false := decide_eq_false hzi
          have hzn : ¬ 0 < k := by omega
          clear hz
          unfold Lt.at at HX
          unfold Lt.val at HF
          clear hg
          go_wp2_with fail
          refine wp_region_held_drew (S := (fun V => Below wr.heap.size wr V)) (by kernel_rfl) (by exact (Below.refl _ _).drew) (fun hHeld => ?_)
          refine tkZ (i := 0) (oi := ⟨some 10, _, _, _, _, _⟩) (v := ?_) rfl (by kernel_rfl) (fun _ _ _ h => h) (Or.inl ⟨by rfl, ?_⟩) hHeld ?_
          rotate_left
          · (intro w hSw; obtain ⟨x0, x1, x2⟩ := HX.out _ hSw; go_simp <;> with_reducible rfl)
          try simp only [pqZ]
          refine tkZ (i := 1) (oi := ⟨some 11, _, _, _, _, _⟩) (v := ?_) rfl (by kernel_rfl) (fun _ _ _ h => h) (Or.inl ⟨by rfl, ?_⟩) hHeld ?_
          rotate_left
          · (intro w hSw; obtain ⟨x0, x1, x2⟩ := HX.out _ hSw; go_simp <;> with_reducible rfl)
          try simp only [pqZ]
          refine tkZ (i := 2) (oi := ⟨some 12, _, _, _, _, _⟩) (v := ?_) rfl (by kernel_rfl) (fun _ _ _ h => h) (Or.inl ⟨by rfl, ?_⟩) hHeld ?_
          rotate_left
          · (intro w hSw; obtain ⟨x0, x1, x2⟩ := HX.out _ hSw; go_simp <;> with_reducible rfl)
          try simp only [pqZ]
          refine tkZ (i := 3) (oi := ⟨some 13, _, _, _, _, _⟩) (v := ?_) rfl (by kernel_rfl) (fun _ _ _ h => h) (Or.inl ⟨by rfl, ?_⟩) hHeld ?_
          rotate_left
          · (intro w hSw; obtain ⟨x0, x1, x2⟩ := HX.out _ hSw; go_simp <;> with_reducible rfl)
          try simp only [pqZ]
          refine wpAnyH_ready (rs := [4]) (by kernel_rfl) (by simp) ?_
          refine AllReadyH.cons (o := ⟨some 14, _, _, _, _, _⟩) rfl (fun K hK => ?_) AllReadyH.nil
          go_simp
          refine (HF.out _).mono ?_
          rintro e y4 ⟨rfl, hk4⟩
          have hKeep := since_step hHeld hk4
          go_wp2_with fail
          refine hK.out _ _ (by (try dsimp only); exact hKeep) (fun hHeld => ?_)
          clear hK K hKeep
          try simp only [pqZ]
          refine tkZ (i := 5) (oi := ⟨some 15, _, _, _, _, _⟩) (v := ?_) rfl (by kernel_rfl) (fun _ _ _ h => h) (Or.inl ⟨by rfl, ?_⟩) hHeld ?_
          rotate_left
          · (intro w hSw; obtain ⟨x0, x1, x2⟩ := HX.out _ hSw; go_simp <;> with_reducible rfl)
          try simp only [pqZ]
          refine tkZ (i := 6) (oi := ⟨some 16, _, _, _, _, _⟩) (v := ?_) rfl (by kernel_rfl) (fun _ _ _ h => h) (Or.inl ⟨by rfl, ?_⟩) hHeld ?_
          rotate_left
          · (intro w hSw; obtain ⟨x0, x1, x2⟩ := HX.out _ hSw; go_simp <;> with_reducible rfl)
          try simp only [pqZ]
          refine tkZ (i := 7) (oi := ⟨some 17, _, _, _, _, _⟩) (v := ?_) rfl (by kernel_rfl) (fun _ _ _ h => h) (Or.inl ⟨by rfl, ?_⟩) hHeld ?_
          rotate_left
          · (intro w hSw; obtain ⟨x0, x1, x2⟩ := HX.out _ hSw; go_simp <;> with_reducible rfl)
          try simp only [pqZ]
          refine tkZ (i := 8) (oi := ⟨some 18, _, _, _, _, _⟩) (v := ?_) rfl (by kernel_rfl) (fun _ _ _ h => h) (Or.inl ⟨by rfl, ?_⟩) hHeld ?_
          rotate_left
          · (intro w hSw; obtain ⟨x0, x1, x2⟩ := HX.out _ hSw; go_simp <;> with_reducible rfl)
          try simp only [pqZ]
          refine tkZ (i := 9) (oi := ⟨some 19, _, _, _, _, _⟩) (v := ?_) rfl (by kernel_rfl) (fun _ _ _ h => h) (Or.inl ⟨by rfl, ?_⟩) hHeld ?_
          rotate_left
          · (intro w hSw; obtain ⟨x0, x1, x2⟩ := HX.out _ hSw; go_simp <;> with_reducible rfl)
          try simp only [pqZ]
          refine tkZ (i := 10) (oi := ⟨some 20, _, _, _, _, _⟩) (v := undef) rfl (by kernel_rfl) (fun _ _ _ h => h) (Or.inr ⟨by rfl, rfl⟩) hHeld ?_
          try simp only [pqZ]
          refine tkZ (i := 11) (oi := ⟨some 21, _, _, _, _, _⟩) (v := undef) rfl (by kernel_rfl) (fun _ _ _ h => h) (Or.inr ⟨by rfl, rfl⟩) hHeld ?_
          try simp only [pqZ]
          refine tkZ (i := 12) (oi := ⟨some 22, _, _, _, _, _⟩) (v := undef) rfl (by kernel_rfl) (fun _ _ _ h => h) (Or.inr ⟨by rfl, rfl⟩) hHeld ?_
          try simp only [pqZ]
          refine tkZ (i := 13) (oi := ⟨some 23, _, _, _, _, _⟩) (v := undef) rfl (by kernel_rfl) (fun _ _ _ h => h) (Or.inr ⟨by rfl, rfl⟩) hHeld ?_
          try simp only [pqZ]
          refine tkZ (i := 14) (oi := ⟨some 24, _, _, _, _, _⟩) (v := undef) rfl (by kernel_rfl) (fun _ _ _ h => h) (Or.inr ⟨by rfl, rfl⟩) hHeld ?_
          try simp only [pqZ]
          refine tkZ (i := 15) (oi := ⟨some 25, _, _, _, _, _⟩) (v := undef) rfl (by kernel_rfl) (fun _ _ _ h => h) (Or.inr ⟨by rfl, rfl⟩) hHeld ?_
          try simp only [pqZ]
          refine tkZ (i := 16) (oi := ⟨some 26, _, _, _, _, _⟩) (v := undef) rfl (by kernel_rfl) (fun _ _ _ h => h) (Or.inr ⟨by rfl, rfl⟩) hHeld ?_
          try simp only [pqZ]
          refine tkZ (i := 17) (oi := ⟨some 27, _, _, _, _, _⟩) (v := undef) rfl (by kernel_rfl) (fun _ _ _ h => h) (Or.inr ⟨by rfl, rfl⟩) hHeld ?_
          try simp only [pqZ]
          refine tkZ (i := 18) (oi := ⟨some 28, _, _, _, _, _⟩) (v := undef) rfl (by kernel_rfl) (fun _ _ _ h => h) (Or.inr ⟨by rfl, rfl⟩) hHeld ?_
          try simp only [pqZ]
          refine tkZ (i := 19) (oi := ⟨some 29, _, _, _, _, _⟩) (v := undef) rfl (by kernel_rfl) (fun _ _ _ h => h) (Or.inr ⟨by rfl, rfl⟩) hHeld ?_
          try simp only [pqZ]
          refine tkZ (i := 20) (oi := ⟨some 30, _, _, _, _, _⟩) (v := undef) rfl (by kernel_rfl) (fun _ _ _ h => h) (Or.inr ⟨by rfl, rfl⟩) hHeld ?_
          try simp only [pqZ]
          refine tkZ (i := 21) (oi := ⟨some 31, _, _, _, _, _⟩) (v := ?_) rfl (by kernel_rfl) (fun _ _ _ h => h) (Or.inl ⟨by rfl, ?_⟩) hHeld ?_
          rotate_left
          · (intro w hSw; obtain ⟨x0, x1, x2⟩ := HX.out _ hSw; go_simp <;> with_reducible rfl)
          try simp only [pqZ]
          refine tkZ (i := 22) (oi := ⟨some 32, _, _, _, _, _⟩) (v := ?_) rfl (by kernel_rfl) (fun _ _ _ h => h) (Or.inl ⟨by rfl, ?_⟩) hHeld ?_
          rotate_left
          · (intro w hSw; obtain ⟨x0, x1, x2⟩ := HX.out _ hSw; go_simp <;> with_reducible rfl)
          try simp only [pqZ]
          refine wpAnyH_done (by kernel_rfl) ?_ _
          have hB2 := hB.trans (hHeld.mono hB.size)
          go_wp2_with fail
          go_roundw
          case rel => exact ⟨k + 1, by omega, by go_num, HN1.out, HN2.out, hB2⟩
          case measure => simp [intOf]; omega
        · obtain ⟨j, rfl⟩ : ∃ j, k = j + 1 := ⟨k - 1, by omega⟩
          obtain ⟨b', o', e, _, hg'⟩ := (hs.below hB).lt (k := j) (by omega)
          injection e with e
          injection e with e1 e2 e3
          subst e1; subst e2
          have hj1 : IntKind.i64.wrap (j : Int) = (j : Int) := IntWalk.i64_in _ (by omega)
          have hj2 : (0 : Int) ≤ (j : Int) := by omega
          have hj3 : (j : Int) < (l.length : Int) := by omega
          have hj4 : (0 : Int) ≤ ((j + 1 : Nat) : Int) := by omega
          have hj5 : (0 : Int) ≤ (j : Int) + 1 := by omega
          have hj6 : (j : Int) + 1 < (l.length : Int) := by omega
          have hj7 : (0 : Int) < (j : Int) + 1 := by omega
          have HXU : Hid (∀ V, Below wr.heap.size wr V → l[j + 1].at V b (o + (j + 1) * 3) ∧ (l[j]'(by omega)).at V b (o + j * 3)) := Lib.hid fun V hV => ⟨Lt.at_keep (w := wr) hg fun i => hV.cell (p := ⟨b, i, none⟩) hbw, Lt.at_keep (w := wr) hg' fun i => hV.cell (p := ⟨b, i, none⟩) hbw⟩
          have HX := HXU
          have HL := Lib.hid (fun V => rless_any (l[j]'(by omega)) l[j + 1] V)
          clear HXU hg hg'
          cases ha : ahL (l[j]'(by omega)) l[j + 1] with
          | true =>
            have HN2 : Hid (∀ i, (hi : i + 1 < l.length) → i + 1 < j + 1 + 1 → ahL (l[i]'(by omega)) l[i + 1] = true) := Lib.hid (fun i hi h => by
              rcases Nat.lt_or_ge i j with h' | h'
              · exact hri i hi (by omega)
              · obtain rfl : i = j := by omega
                exact ha)
            rw [ha] at HL
            clear hri ha
            generalize l[j + 1] = x at *
            obtain ⟨y, hy⟩ : ∃ y, (l[j]'(by omega)) = y := ⟨_, rfl⟩
            rw [hy] at HX HL
            clear hy
            unfold Lt.at at HX
            unfold Lt.val at HF HL
            go_wp2_with fail
            refine wp_region_held_drew (S := (fun V => Below wr.heap.size wr V)) (by kernel_rfl) (by exact (Below.refl _ _).drew) (fun hHeld => ?_)
            refine tkZ (i := 0) (oi := ⟨some 10, _, _, _, _, _⟩) (v := ?_) rfl (by kernel_rfl) (fun _ _ _ h => h) (Or.inl ⟨by rfl, ?_⟩) hHeld ?_
            rotate_left
            · (intro w hSw; obtain ⟨⟨x0, x1, x2⟩, y0, y1, y2⟩ := HX.out _ hSw; go_simp <;> with_reducible rfl)
            try simp only [pqZ]
            refine tkZ (i := 1) (oi := ⟨some 11, _, _, _, _, _⟩) (v := ?_) rfl (by kernel_rfl) (fun _ _ _ h => h) (Or.inl ⟨by rfl, ?_⟩) hHeld ?_
            rotate_left
            · (intro w hSw; obtain ⟨⟨x0, x1, x2⟩, y0, y1, y2⟩ := HX.out _ hSw; go_simp <;> with_reducible rfl)
            try simp only [pqZ]
            refine tkZ (i := 2) (oi := ⟨some 12, _, _, _, _, _⟩) (v := ?_) rfl (by kernel_rfl) (fun _ _ _ h => h) (Or.inl ⟨by rfl, ?_⟩) hHeld ?_
            rotate_left
            · (intro w hSw; obtain ⟨⟨x0, x1, x2⟩, y0, y1, y2⟩ := HX.out _ hSw; go_simp <;> with_reducible rfl)
            try simp only [pqZ]
            refine tkZ (i := 3) (oi := ⟨some 13, _, _, _, _, _⟩) (v := ?_) rfl (by kernel_rfl) (fun _ _ _ h => h) (Or.inl ⟨by rfl, ?_⟩) hHeld ?_
            rotate_left
            · (intro w hSw; obtain ⟨⟨x0, x1, x2⟩, y0, y1, y2⟩ := HX.out _ hSw; go_simp <;> with_reducible rfl)
            try simp only [pqZ]
            refine wpAnyH_ready (rs := [4]) (by kernel_rfl) (by simp) ?_
            refine AllReadyH.cons (o := ⟨some 14, _, _, _, _, _⟩) rfl (fun K hK => ?_) AllReadyH.nil
            go_simp
            refine (HF.out _).mono ?_
            rintro e y4 ⟨rfl, hk4⟩
            have hKeep := since_step hHeld hk4
            go_wp2_with fail
            refine hK.out _ _ (by (try dsimp only); exact hKeep) (fun hHeld => ?_)
            clear hK K hKeep
            try simp only [pqZ]
            refine tkZ (i := 5) (oi := ⟨some 15, _, _, _, _, _⟩) (v := ?_) rfl (by kernel_rfl) (fun _ _ _ h => h) (Or.inl ⟨by rfl, ?_⟩) hHeld ?_
            rotate_left
            · (intro w hSw; obtain ⟨⟨x0, x1, x2⟩, y0, y1, y2⟩ := HX.out _ hSw; go_simp <;> with_reducible rfl)
            try simp only [pqZ]
            refine tkZ (i := 6) (oi := ⟨some 16, _, _, _, _, _⟩) (v := ?_) rfl (by kernel_rfl) (fun _ _ _ h => h) (Or.inl ⟨by rfl, ?_⟩) hHeld ?_
            rotate_left
            · (intro w hSw; obtain ⟨⟨x0, x1, x2⟩, y0, y1, y2⟩ := HX.out _ hSw; go_simp <;> with_reducible rfl)
            try simp only [pqZ]
            refine tkZ (i := 7) (oi := ⟨some 17, _, _, _, _, _⟩) (v := ?_) rfl (by kernel_rfl) (fun _ _ _ h => h) (Or.inl ⟨by rfl, ?_⟩) hHeld ?_
            rotate_left
            · (intro w hSw; obtain ⟨⟨x0, x1, x2⟩, y0, y1, y2⟩ := HX.out _ hSw; go_simp <;> with_reducible rfl)
            try simp only [pqZ]
            refine tkZ (i := 8) (oi := ⟨some 18, _, _, _, _, _⟩) (v := ?_) rfl (by kernel_rfl) (fun _ _ _ h => h) (Or.inl ⟨by rfl, ?_⟩) hHeld ?_
            rotate_left
            · (intro w hSw; obtain ⟨⟨x0, x1, x2⟩, y0, y1, y2⟩ := HX.out _ hSw; go_simp <;> with_reducible rfl)
            try simp only [pqZ]
            refine tkZ (i := 9) (oi := ⟨some 19, _, _, _, _, _⟩) (v := ?_) rfl (by kernel_rfl) (fun _ _ _ h => h) (Or.inl ⟨by rfl, ?_⟩) hHeld ?_
            rotate_left
            · (intro w hSw; obtain ⟨⟨x0, x1, x2⟩, y0, y1, y2⟩ := HX.out _ hSw; go_simp <;> with_reducible rfl)
            try simp only [pqZ]
            refine tkZ (i := 10) (oi := ⟨some 20, _, _, _, _, _⟩) (v := ?_) rfl (by kernel_rfl) (fun _ _ _ h => h) (Or.inl ⟨by rfl, ?_⟩) hHeld ?_
            rotate_left
            · (intro w hSw; obtain ⟨⟨x0, x1, x2⟩, y0, y1, y2⟩ := HX.out _ hSw; go_simp <;> with_reducible rfl)
            try simp only [pqZ]
            refine tkZ (i := 11) (oi := ⟨some 21, _, _, _, _, _⟩) (v := ?_) rfl (by kernel_rfl) (fun _ _ _ h => h) (Or.inl ⟨by rfl, ?_⟩) hHeld ?_
            rotate_left
            · (intro w hSw; obtain ⟨⟨x0, x1, x2⟩, y0, y1, y2⟩ := HX.out _ hSw; go_simp <;> with_reducible rfl)
            try simp only [pqZ]
            refine tkZ (i := 12) (oi := ⟨some 22, _, _, _, _, _⟩) (v := ?_) rfl (by kernel_rfl) (fun _ _ _ h => h) (Or.inl ⟨by rfl, ?_⟩) hHeld ?_
            rotate_left
            · (intro w hSw; obtain ⟨⟨x0, x1, x2⟩, y0, y1, y2⟩ := HX.out _ hSw; go_simp <;> with_reducible rfl)
            try simp only [pqZ]
            refine tkZ (i := 13) (oi := ⟨some 23, _, _, _, _, _⟩) (v := ?_) rfl (by kernel_rfl) (fun _ _ _ h => h) (Or.inl ⟨by rfl, ?_⟩) hHeld ?_
            rotate_left
            · (intro w hSw; obtain ⟨⟨x0, x1, x2⟩, y0, y1, y2⟩ := HX.out _ hSw; go_simp <;> with_reducible rfl)
            try simp only [pqZ]
            refine tkZ (i := 14) (oi := ⟨some 24, _, _, _, _, _⟩) (v := ?_) rfl (by kernel_rfl) (fun _ _ _ h => h) (Or.inl ⟨by rfl, ?_⟩) hHeld ?_
            rotate_left
            · (intro w hSw; obtain ⟨⟨x0, x1, x2⟩, y0, y1, y2⟩ := HX.out _ hSw; go_simp <;> with_reducible rfl)
            try simp only [pqZ]
            refine tkZ (i := 15) (oi := ⟨some 25, _, _, _, _, _⟩) (v := ?_) rfl (by kernel_rfl) (fun _ _ _ h => h) (Or.inl ⟨by rfl, ?_⟩) hHeld ?_
            rotate_left
            · (intro w hSw; obtain ⟨⟨x0, x1, x2⟩, y0, y1, y2⟩ := HX.out _ hSw; go_simp <;> with_reducible rfl)
            try simp only [pqZ]
            refine tkZ (i := 16) (oi := ⟨some 26, _, _, _, _, _⟩) (v := ?_) rfl (by kernel_rfl) (fun _ _ _ h => h) (Or.inl ⟨by rfl, ?_⟩) hHeld ?_
            rotate_left
            · (intro w hSw; obtain ⟨⟨x0, x1, x2⟩, y0, y1, y2⟩ := HX.out _ hSw; go_simp <;> with_reducible rfl)
            try simp only [pqZ]
            refine tkZ (i := 17) (oi := ⟨some 27, _, _, _, _, _⟩) (v := ?_) rfl (by kernel_rfl) (fun _ _ _ h => h) (Or.inl ⟨by rfl, ?_⟩) hHeld ?_
            rotate_left
            · (intro w hSw; obtain ⟨⟨x0, x1, x2⟩, y0, y1, y2⟩ := HX.out _ hSw; go_simp <;> with_reducible rfl)
            try simp only [pqZ]
            refine tkZ (i := 18) (oi := ⟨some 28, _, _, _, _, _⟩) (v := ?_) rfl (by kernel_rfl) (fun _ _ _ h => h) (Or.inl ⟨by rfl, ?_⟩) hHeld ?_
            rotate_left
            · (intro w hSw; obtain ⟨⟨x0, x1, x2⟩, y0, y1, y2⟩ := HX.out _ hSw; go_simp <;> with_reducible rfl)
            try simp only [pqZ]
            refine wpAnyH_ready (rs := [19]) (by kernel_rfl) (by simp) ?_
            refine AllReadyH.cons (o := ⟨some 29, _, _, _, _, _⟩) rfl (fun K hK => ?_) AllReadyH.nil
            go_simp
            refine (HL.out _).mono ?_
            rintro e y19 ⟨rfl, hk19⟩
            have hKeep := since_step hHeld hk19
            go_wp2_with fail
            refine hK.out _ _ (by (try dsimp only); exact hKeep) (fun hHeld => ?_)
            clear hK K hKeep
            try simp only [pqZ]
            refine tkZ (i := 20) (oi := ⟨some 30, _, _, _, _, _⟩) (v := ?_) rfl (by kernel_rfl) (fun _ _ _ h => h) (Or.inl ⟨by rfl, ?_⟩) hHeld ?_
            rotate_left
            · (intro w hSw; obtain ⟨⟨x0, x1, x2⟩, y0, y1, y2⟩ := HX.out _ hSw; go_simp <;> with_reducible rfl)
            try simp only [pqZ]
            refine tkZ (i := 21) (oi := ⟨some 31, _, _, _, _, _⟩) (v := ?_) rfl (by kernel_rfl) (fun _ _ _ h => h) (Or.inl ⟨by rfl, ?_⟩) hHeld ?_
            rotate_left
            · (intro w hSw; obtain ⟨⟨x0, x1, x2⟩, y0, y1, y2⟩ := HX.out _ hSw; go_simp <;> with_reducible rfl)
            try simp only [pqZ]
            refine tkZ (i := 22) (oi := ⟨some 32, _, _, _, _, _⟩) (v := ?_) rfl (by kernel_rfl) (fun _ _ _ h => h) (Or.inl ⟨by rfl, ?_⟩) hHeld ?_
            rotate_left
            · (intro w hSw; obtain ⟨⟨x0, x1, x2⟩, y0, y1, y2⟩ := HX.out _ hSw; go_simp <;> with_reducible rfl)
            try simp only [pqZ]
            refine wpAnyH_done (by kernel_rfl) ?_ _
            have hB2 := hB.trans (hHeld.mono hB.size)
            go_wp2_with fail
            go_roundw
            case rel => exact ⟨j + 1 + 1, by omega, by go_num, HN1.out, HN2.out, hB2⟩
            case measure => simp [intOf]; omega
          | false =>
            have HE : Hid (isLs l = false) := Lib.hid (isLs_low hlt ha)
            rw [ha] at HL
            clear hri ha HN1
            generalize l[j + 1] = x at *
            obtain ⟨y, hy⟩ : ∃ y, (l[j]'(by omega)) = y := ⟨_, rfl⟩
            rw [hy] at HX HL
            clear hy
            unfold Lt.at at HX
            unfold Lt.val at HF HL
            go_wp2_with fail
            refine wp_region_held_drew (S := (fun V => Below wr.heap.size wr V)) (by kernel_rfl) (by exact (Below.refl _ _).drew) (fun hHeld => ?_)
            refine tkZ (i := 0) (oi := ⟨some 10, _, _, _, _, _⟩) (v := ?_) rfl (by kernel_rfl) (fun _ _ _ h => h) (Or.inl ⟨by rfl, ?_⟩) hHeld ?_
            rotate_left
            · (intro w hSw; obtain ⟨⟨x0, x1, x2⟩, y0, y1, y2⟩ := HX.out _ hSw; go_simp <;> with_reducible rfl)
            try simp only [pqZ]
            refine tkZ (i := 1) (oi := ⟨some 11, _, _, _, _, _⟩) (v := ?_) rfl (by kernel_rfl) (fun _ _ _ h => h) (Or.inl ⟨by rfl, ?_⟩) hHeld ?_
            rotate_left
            · (intro w hSw; obtain ⟨⟨x0, x1, x2⟩, y0, y1, y2⟩ := HX.out _ hSw; go_simp <;> with_reducible rfl)
            try simp only [pqZ]
            refine tkZ (i := 2) (oi := ⟨some 12, _, _, _, _, _⟩) (v := ?_) rfl (by kernel_rfl) (fun _ _ _ h => h) (Or.inl ⟨by rfl, ?_⟩) hHeld ?_
            rotate_left
            · (intro w hSw; obtain ⟨⟨x0, x1, x2⟩, y0, y1, y2⟩ := HX.out _ hSw; go_simp <;> with_reducible rfl)
            try simp only [pqZ]
            refine tkZ (i := 3) (oi := ⟨some 13, _, _, _, _, _⟩) (v := ?_) rfl (by kernel_rfl) (fun _ _ _ h => h) (Or.inl ⟨by rfl, ?_⟩) hHeld ?_
            rotate_left
            · (intro w hSw; obtain ⟨⟨x0, x1, x2⟩, y0, y1, y2⟩ := HX.out _ hSw; go_simp <;> with_reducible rfl)
            try simp only [pqZ]
            refine wpAnyH_ready (rs := [4]) (by kernel_rfl) (by simp) ?_
            refine AllReadyH.cons (o := ⟨some 14, _, _, _, _, _⟩) rfl (fun K hK => ?_) AllReadyH.nil
            go_simp
            refine (HF.out _).mono ?_
            rintro e y4 ⟨rfl, hk4⟩
            have hKeep := since_step hHeld hk4
            go_wp2_with fail
            refine hK.out _ _ (by (try dsimp only); exact hKeep) (fun hHeld => ?_)
            clear hK K hKeep
            try simp only [pqZ]
            refine tkZ (i := 5) (oi := ⟨some 15, _, _, _, _, _⟩) (v := ?_) rfl (by kernel_rfl) (fun _ _ _ h => h) (Or.inl ⟨by rfl, ?_⟩) hHeld ?_
            rotate_left
            · (intro w hSw; obtain ⟨⟨x0, x1, x2⟩, y0, y1, y2⟩ := HX.out _ hSw; go_simp <;> with_reducible rfl)
            try simp only [pqZ]
            refine tkZ (i := 6) (oi := ⟨some 16, _, _, _, _, _⟩) (v := ?_) rfl (by kernel_rfl) (fun _ _ _ h => h) (Or.inl ⟨by rfl, ?_⟩) hHeld ?_
            rotate_left
            · (intro w hSw; obtain ⟨⟨x0, x1, x2⟩, y0, y1, y2⟩ := HX.out _ hSw; go_simp <;> with_reducible rfl)
            try simp only [pqZ]
            refine tkZ (i := 7) (oi := ⟨some 17, _, _, _, _, _⟩) (v := ?_) rfl (by kernel_rfl) (fun _ _ _ h => h) (Or.inl ⟨by rfl, ?_⟩) hHeld ?_
            rotate_left
            · (intro w hSw; obtain ⟨⟨x0, x1, x2⟩, y0, y1, y2⟩ := HX.out _ hSw; go_simp <;> with_reducible rfl)
            try simp only [pqZ]
            refine tkZ (i := 8) (oi := ⟨some 18, _, _, _, _, _⟩) (v := ?_) rfl (by kernel_rfl) (fun _ _ _ h => h) (Or.inl ⟨by rfl, ?_⟩) hHeld ?_
            rotate_left
            · (intro w hSw; obtain ⟨⟨x0, x1, x2⟩, y0, y1, y2⟩ := HX.out _ hSw; go_simp <;> with_reducible rfl)
            try simp only [pqZ]
            refine tkZ (i := 9) (oi := ⟨some 19, _, _, _, _, _⟩) (v := ?_) rfl (by kernel_rfl) (fun _ _ _ h => h) (Or.inl ⟨by rfl, ?_⟩) hHeld ?_
            rotate_left
            · (intro w hSw; obtain ⟨⟨x0, x1, x2⟩, y0, y1, y2⟩ := HX.out _ hSw; go_simp <;> with_reducible rfl)
            try simp only [pqZ]
            refine tkZ (i := 10) (oi := ⟨some 20, _, _, _, _, _⟩) (v := ?_) rfl (by kernel_rfl) (fun _ _ _ h => h) (Or.inl ⟨by rfl, ?_⟩) hHeld ?_
            rotate_left
            · (intro w hSw; obtain ⟨⟨x0, x1, x2⟩, y0, y1, y2⟩ := HX.out _ hSw; go_simp <;> with_reducible rfl)
            try simp only [pqZ]
            refine tkZ (i := 11) (oi := ⟨some 21, _, _, _, _, _⟩) (v := ?_) rfl (by kernel_rfl) (fun _ _ _ h => h) (Or.inl ⟨by rfl, ?_⟩) hHeld ?_
            rotate_left
            · (intro w hSw; obtain ⟨⟨x0, x1, x2⟩, y0, y1, y2⟩ := HX.out _ hSw; go_simp <;> with_reducible rfl)
            try simp only [pqZ]
            refine tkZ (i := 12) (oi := ⟨some 22, _, _, _, _, _⟩) (v := ?_) rfl (by kernel_rfl) (fun _ _ _ h => h) (Or.inl ⟨by rfl, ?_⟩) hHeld ?_
            rotate_left
            · (intro w hSw; obtain ⟨⟨x0, x1, x2⟩, y0, y1, y2⟩ := HX.out _ hSw; go_simp <;> with_reducible rfl)
            try simp only [pqZ]
            refine tkZ (i := 13) (oi := ⟨some 23, _, _, _, _, _⟩) (v := ?_) rfl (by kernel_rfl) (fun _ _ _ h => h) (Or.inl ⟨by rfl, ?_⟩) hHeld ?_
            rotate_left
            · (intro w hSw; obtain ⟨⟨x0, x1, x2⟩, y0, y1, y2⟩ := HX.out _ hSw; go_simp <;> with_reducible rfl)
            try simp only [pqZ]
            refine tkZ (i := 14) (oi := ⟨some 24, _, _, _, _, _⟩) (v := ?_) rfl (by kernel_rfl) (fun _ _ _ h => h) (Or.inl ⟨by rfl, ?_⟩) hHeld ?_
            rotate_left
            · (intro w hSw; obtain ⟨⟨x0, x1, x2⟩, y0, y1, y2⟩ := HX.out _ hSw; go_simp <;> with_reducible rfl)
            try simp only [pqZ]
            refine tkZ (i := 15) (oi := ⟨some 25, _, _, _, _, _⟩) (v := ?_) rfl (by kernel_rfl) (fun _ _ _ h => h) (Or.inl ⟨by rfl, ?_⟩) hHeld ?_
            rotate_left
            · (intro w hSw; obtain ⟨⟨x0, x1, x2⟩, y0, y1, y2⟩ := HX.out _ hSw; go_simp <;> with_reducible rfl)
            try simp only [pqZ]
            refine tkZ (i := 16) (oi := ⟨some 26, _, _, _, _, _⟩) (v := ?_) rfl (by kernel_rfl) (fun _ _ _ h => h) (Or.inl ⟨by rfl, ?_⟩) hHeld ?_
            rotate_left
            · (intro w hSw; obtain ⟨⟨x0, x1, x2⟩, y0, y1, y2⟩ := HX.out _ hSw; go_simp <;> with_reducible rfl)
            try simp only [pqZ]
            refine tkZ (i := 17) (oi := ⟨some 27, _, _, _, _, _⟩) (v := ?_) rfl (by kernel_rfl) (fun _ _ _ h => h) (Or.inl ⟨by rfl, ?_⟩) hHeld ?_
            rotate_left
            · (intro w hSw; obtain ⟨⟨x0, x1, x2⟩, y0, y1, y2⟩ := HX.out _ hSw; go_simp <;> with_reducible rfl)
            try simp only [pqZ]
            refine tkZ (i := 18) (oi := ⟨some 28, _, _, _, _, _⟩) (v := ?_) rfl (by kernel_rfl) (fun _ _ _ h => h) (Or.inl ⟨by rfl, ?_⟩) hHeld ?_
            rotate_left
            · (intro w hSw; obtain ⟨⟨x0, x1, x2⟩, y0, y1, y2⟩ := HX.out _ hSw; go_simp <;> with_reducible rfl)
            try simp only [pqZ]
            refine wpAnyH_ready (rs := [19]) (by kernel_rfl) (by simp) ?_
            refine AllReadyH.cons (o := ⟨some 29, _, _, _, _, _⟩) rfl (fun K hK => ?_) AllReadyH.nil
            go_simp
            refine (HL.out _).mono ?_
            rintro e y19 ⟨rfl, hk19⟩
            have hKeep := since_step hHeld hk19
            go_wp2_with fail
            refine hK.out _ _ (by (try dsimp only); exact hKeep) (fun hHeld => ?_)
            clear hK K hKeep
            try simp only [pqZ]
            refine tkZ (i := 20) (oi := ⟨some 30, _, _, _, _, _⟩) (v := ?_) rfl (by kernel_rfl) (fun _ _ _ h => h) (Or.inl ⟨by rfl, ?_⟩) hHeld ?_
            rotate_left
            · (intro w hSw; obtain ⟨⟨x0, x1, x2⟩, y0, y1, y2⟩ := HX.out _ hSw; go_simp <;> with_reducible rfl)
            try simp only [pqZ]
            refine tkZ (i := 21) (oi := ⟨some 31, _, _, _, _, _⟩) (v := ?_) rfl (by kernel_rfl) (fun _ _ _ h => h) (Or.inl ⟨by rfl, ?_⟩) hHeld ?_
            rotate_left
            · (intro w hSw; obtain ⟨⟨x0, x1, x2⟩, y0, y1, y2⟩ := HX.out _ hSw; go_simp <;> with_reducible rfl)
            try simp only [pqZ]
            refine tkZ (i := 22) (oi := ⟨some 32, _, _, _, _, _⟩) (v := ?_) rfl (by kernel_rfl) (fun _ _ _ h => h) (Or.inl ⟨by rfl, ?_⟩) hHeld ?_
            rotate_left
            · (intro w hSw; obtain ⟨⟨x0, x1, x2⟩, y0, y1, y2⟩ := HX.out _ hSw; go_simp <;> with_reducible rfl)
            try simp only [pqZ]
            refine wpAnyH_done (by kernel_rfl) ?_ _
            have hB2 := hB.trans (hHeld.mono hB.size)
            go_wp2_with fail
            go_ret
            exact ⟨retB HE.out.symm, hB2⟩
    · obtain rfl : k = l.length := by omega
      have HE : Hid (isLs l = decide ((l.length : Int) ≤ 16)) := Lib.hid (by rw [isLs_end (fun j hj => hno j hj hj) (fun j hj => hri j hj hj)]; simp only [decide_eq_decide]; omega)
      clear hno hri
      go_wp2_with fail
      go_ret
      exact ⟨retB HE.out.symm, hB⟩
end Go.Proofs.Ytlbccpiadmcpjaa
end
