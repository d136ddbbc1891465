import Derived.Test.YtiggcpfmmgmncaaVp07
set_option maxHeartbeats 16000000
set_option maxRecDepth 100000
set_option linter.unusedVariables false
set_option linter.unusedSimpArgs false
namespace Go.Proofs.Ytiggcpfmmgmncaa
open Go.ChangeShapes Go.WideShapes Go.ChangeAt Go.RowKit
section
theorem rdec7_short (A : Option Addr) (n c : Nat) (w : World) (hn : n ≠ 96) :
    Calls Try.prog 63 #[.slice A n c] w fun e w' => DRes w.heap.size w' e (Fr0, 3) ∧ Below w.heap.size w w' := by
  have hn2 : ((n : Int) != 96) = true := by simp; omega
  go_enter Try.func63, Try.ntmps63
  go_wp2_with fail
  refine bodyPost_ret (v := .tuple #[.agg #[.int .i64 0, .int .i64 0, .int .i64 0, .int .i64 0, .int .i64 0, .slice none 0 0], .int .i64 3]) ?_ rfl ⟨DRes.no _ _, since_alloc (Below.refl _ _) _⟩
  simp [results, Try.results63, go_sem]
theorem rdec7_big (b o c d : Nat) (w : World) (hc : 96 ≤ c) (hcm : c ≤ maxLen) (hd : 80 < d) (hd3 : d < 256) (hcd : w.cell? ⟨b, o + 12, none⟩ = some (.int .u8 (d : Int))) :
    Calls Try.prog 63 #[.slice (some ⟨b, o, none⟩) 96 c] w fun e w' => DRes w.heap.size w' e (Fr0, 3) ∧ Below w.heap.size w w' := by
  have hd2 : (80 : Int) < (d : Int) := by omega
  have hblt : b < w.heap.size := World.block_lt_of_cell? _ _ hcd
  go_enter Try.func63, Try.ntmps63
  go_wp2_with fail
  refine bodyPost_ret (v := .tuple #[.agg #[.int .i64 0, .int .i64 0, .int .i64 0, .int .i64 0, .int .i64 0, .slice none 0 0], .int .i64 3]) ?_ rfl ⟨DRes.no _ _, since_alloc (Below.refl _ _) _⟩
  simp [results, Try.results63, go_sem]
theorem rdec7_unfit (b o c : Nat) (l : List Nat) (w : World) (h96 : l.length = 96) (hc : 96 ≤ c) (hcm : c ≤ maxLen) (hs : Sl w (some ⟨b, o, none⟩) (by8 l)) (ho : Oct l) (hd : l.getD 12 0 ≤ 80) (hok : (cand l).ok = false) :
    Calls Try.prog 63 #[.slice (some ⟨b, o, none⟩) 96 c] w fun e w' => DRes w.heap.size w' e (Fr0, 3) ∧ Below w.heap.size w w' := by
  obtain ⟨d, hd0⟩ : ∃ d, l.getD 12 0 = d := ⟨_, rfl⟩
  have hcell : ∀ j, (hj : j < 96) → w.cell? ⟨b, o + j, none⟩ = some (.int .u8 (l.getD j 0 : Nat)) := by
    intro j hj
    obtain ⟨_, _, e, h⟩ := hs.byte (j := j) (by omega)
    injection e with e; injection e with e1 e2; subst e1; subst e2
    rw [h, List.getD_eq_getElem?_getD, List.getElem?_eq_getElem (by omega)]
    rfl
  have hcd := hcell 12 (by omega)
  have hc10 := hcell 10 (by omega)
  have hc11 := hcell 11 (by omega)
  have hbt : ∀ j, j < 96 → l.getD j 0 < 256 := by
    intro j hj
    rw [List.getD_eq_getElem?_getD, List.getElem?_eq_getElem (by omega)]
    exact ho.at_ (by omega)
  have hb10 := hbt 10 (by omega)
  have hb11 := hbt 11 (by omega)
  rw [hd0] at hd hcd
  have hblt : b < w.heap.size := World.block_lt_of_cell? _ _ hcd
  obtain ⟨n0, hn0⟩ : ∃ n : Int, ((bnum (seg l 0 3) : Nat) : Int) = n := ⟨_, rfl⟩
  obtain ⟨n1, hn1⟩ : ∃ n : Int, ((bnum (seg l 3 3) : Nat) : Int) = n := ⟨_, rfl⟩
  obtain ⟨n2, hn2⟩ : ∃ n : Int, ((bnum (seg l 6 4) : Nat) : Int) = n := ⟨_, rfl⟩
  obtain ⟨n3, hn3⟩ : ∃ n : Int, ((l.getD 10 0 : Nat) : Int) = n := ⟨_, rfl⟩
  obtain ⟨n4, hn4⟩ : ∃ n : Int, ((l.getD 11 0 : Nat) : Int) = n := ⟨_, rfl⟩
  have hr3 : 0 ≤ n3 ∧ n3 < 256 := by omega
  have hr4 : 0 ≤ n4 ∧ n4 < 256 := by omega
  rw [hn3] at hc10
  rw [hn4] at hc11
  obtain ⟨hr30, hr31⟩ := hr3
  obtain ⟨hr40, hr41⟩ := hr4
  have HVAL : Hid (∀ A c, (cand l).val A c = .agg #[.int .i64 n0, .int .i64 n1, .int .i64 n2, .int .i64 n3, .int .i64 n4, .slice A d c]) := Lib.hid fun A c => by
    unfold Fr.val cand
    simp only
    rw [hd0, seg_len (by omega), hn0, hn1, hn2, hn3, hn4]
  have HLN : Hid ((cand l).data = seg l 13 d ∧ (cand l).data.length = d) := Lib.hid (by unfold cand; simp only; rw [hd0, seg_len (by omega)]; exact ⟨rfl, rfl⟩)
  have HENC : Hid (∀ (A : Option Addr) (c : Nat) (V : World), Sl V A (by8 (seg l 13 d)) → Calls Try.prog 64 #[.agg #[.int .i64 n0, .int .i64 n1, .int .i64 n2, .int .i64 n3, .int .i64 n4, .slice A d c]] V fun e w' => ERes V.heap.size w' e (encF (cand l)) ∧ Below V.heap.size V w') := Lib.hid fun A c V hV => by
    rw [← HVAL.out A c]
    exact renc7_any (cand l) A c V (by rw [HLN.out.2]; omega) (by rw [HLN.out.1]; exact hV) (by rw [HLN.out.1]; exact seg_oct ho _ _)
  have HSL2 : Hid ((seg l 13 d).length = d) := Lib.hid (seg_len (by omega))
  have HBX := Lib.hid (fun V (hV : Below (w.heap.size + 1) (w.alloc (.cells #[.int .i64 0, .int .i64 0, .int .i64 0, .int .i64 0, .int .i64 0, .slice none 0 0] 111)) V) => box6 (V := V) (by rw [World.size_alloc]; exact hV))
  have HFZ : Hid (∀ V, Below (w.heap.size + 1) (w.alloc (.cells #[.int .i64 0, .int .i64 0, .int .i64 0, .int .i64 0, .int .i64 0, .slice none 0 0] 111)) V → (∀ i, V.frozen? ⟨w.heap.size, i, none⟩ = false) ∧ w.heap.size < V.heap.size) := Lib.hid fun V hV => ⟨fun i => by rw [hV.frozen (p := ⟨w.heap.size, i, none⟩) (Nat.lt_succ_self w.heap.size)]; exact frozen_new w _ _ i, by have := hV.size; rw [World.size_alloc] at this; omega⟩
  have HB0 : Hid (Below (w.heap.size + 1) (w.alloc (.cells #[.int .i64 0, .int .i64 0, .int .i64 0, .int .i64 0, .int .i64 0, .slice none 0 0] 111)) (w.alloc (.cells #[.int .i64 0, .int .i64 0, .int .i64 0, .int .i64 0, .int .i64 0, .slice none 0 0] 111))) := Lib.hid (Below.refl _ _)
  have HSZ1 : Hid (w.heap.size + 1 ≤ ((w.alloc (.cells #[.int .i64 0, .int .i64 0, .int .i64 0, .int .i64 0, .int .i64 0, .slice none 0 0] 111))).heap.size) := Lib.hid (by rw [World.size_alloc]; exact Nat.le_refl _)
  have HBW : Hid (Below w.heap.size w (w.alloc (.cells #[.int .i64 0, .int .i64 0, .int .i64 0, .int .i64 0, .int .i64 0, .slice none 0 0] 111))) := Lib.hid (since_alloc (Below.refl _ _) _)
  have HBW0 : Hid (∀ V, Below (w.heap.size + 1) (w.alloc (.cells #[.int .i64 0, .int .i64 0, .int .i64 0, .int .i64 0, .int .i64 0, .slice none 0 0] 111)) V → Below w.heap.size w V) := Lib.hid fun V hV => (since_alloc (Below.refl _ _) _).trans (hV.mono (Nat.le_succ _))
  have HSL0 := Lib.hid hs
  have HSLW := Lib.hid (hs.alloc (.cells #[.int .i64 0, .int .i64 0, .int .i64 0, .int .i64 0, .int .i64 0, .slice none 0 0] 111))
  have HC12 : Hid (((w.alloc (.cells #[.int .i64 0, .int .i64 0, .int .i64 0, .int .i64 0, .int .i64 0, .slice none 0 0] 111))).cell? ⟨b, o + 12, none⟩ = some (.int .u8 (d : Int))) := Lib.hid ((World.cell?_alloc_lt w _ ⟨b, o + 12, none⟩ hblt).trans hcd)
  have HC10 : Hid (((w.alloc (.cells #[.int .i64 0, .int .i64 0, .int .i64 0, .int .i64 0, .int .i64 0, .slice none 0 0] 111))).cell? ⟨b, o + 10, none⟩ = some (.int .u8 n3)) := Lib.hid ((World.cell?_alloc_lt w _ ⟨b, o + 10, none⟩ hblt).trans hc10)
  have HC11 : Hid (((w.alloc (.cells #[.int .i64 0, .int .i64 0, .int .i64 0, .int .i64 0, .int .i64 0, .slice none 0 0] 111))).cell? ⟨b, o + 11, none⟩ = some (.int .u8 n4)) := Lib.hid ((World.cell?_alloc_lt w _ ⟨b, o + 11, none⟩ hblt).trans hc11)
  have HBL : Hid (b < ((w.alloc (.cells #[.int .i64 0, .int .i64 0, .int .i64 0, .int .i64 0, .int .i64 0, .slice none 0 0] 111))).heap.size) := Lib.hid (by rw [World.size_alloc]; omega)
  have HBLT : Hid (b < w.heap.size) := Lib.hid hblt
  have H96 := Lib.hid h96
  have HD0 := Lib.hid hd0
  have HCELL := Lib.hid hcell
  have hd2 : ¬ (80 : Int) < (d : Int) := by omega
  have hd3 : d < 256 := by omega
  have HENF : Hid (encF (cand l) = ([], 2)) := Lib.hid (if_neg (by rw [hok]; decide))
  clear hd0 hs h96 hcell hbt hb10 hb11 hc10 hc11
  go_enter Try.func63, Try.ntmps63
  go_wp2_with fail
  generalize hW1 : w.alloc (.cells #[.int .i64 0, .int .i64 0, .int .i64 0, .int .i64 0, .int .i64 0, .slice none 0 0] 111) = v1 at *
  have HSL : Hid (Sl v1 (some ⟨b, o, none⟩) (by8 l)) := HSLW
  have HL : Hid (∀ V, Below v1.heap.size v1 V → V.cell? ⟨b, o + 10, none⟩ = some (.int .u8 n3) ∧ V.cell? ⟨b, o + 11, none⟩ = some (.int .u8 n4)) := Lib.hid fun V hV => ⟨(hV.cell (p := ⟨b, o + 10, none⟩) HBL.out).trans HC10.out, (hV.cell (p := ⟨b, o + 11, none⟩) HBL.out).trans HC11.out⟩
  have HSZ : Hid (w.heap.size ≤ v1.heap.size) := Lib.hid (by have := HSZ1.out; omega)
  have h96 := H96.out
  have HG2 : Hid (∀ V, Below v1.heap.size v1 V → Calls Try.prog 85 #[.slice (some ⟨b, o, none⟩) 3 (c)] V fun e w' => e = .returned (.int .i64 n0) ∧ V = w') := Lib.hid fun V hV => by
    have h := rvalue7_any (some ⟨b, o + 0, none⟩) (c) (seg l 0 3) V (by rw [seg_len (by omega)]; omega) (seg_oct ho _ _) ((HSL.out.below hV).seg _ _)
    rw [seg_len (by omega), hn0] at h
    exact h
  have HG5 : Hid (∀ V, Below v1.heap.size v1 V → Calls Try.prog 85 #[.slice (some ⟨b, o + 3, none⟩) 3 (c - 3)] V fun e w' => e = .returned (.int .i64 n1) ∧ V = w') := Lib.hid fun V hV => by
    have h := rvalue7_any (some ⟨b, o + 3, none⟩) (c - 3) (seg l 3 3) V (by rw [seg_len (by omega)]; omega) (seg_oct ho _ _) ((HSL.out.below hV).seg _ _)
    rw [seg_len (by omega), hn1] at h
    exact h
  have HG8 : Hid (∀ V, Below v1.heap.size v1 V → Calls Try.prog 85 #[.slice (some ⟨b, o + 6, none⟩) 4 (c - 6)] V fun e w' => e = .returned (.int .i64 n2) ∧ V = w') := Lib.hid fun V hV => by
    have h := rvalue7_any (some ⟨b, o + 6, none⟩) (c - 6) (seg l 6 4) V (by rw [seg_len (by omega)]; omega) (seg_oct ho _ _) ((HSL.out.below hV).seg _ _)
    rw [seg_len (by omega), hn2] at h
    exact h
  clear h96 hW1
  have hc3 : (3 : Int) ≤ (c : Int) ∧ (6 : Int) ≤ (c : Int) ∧ (10 : Int) ≤ (c : Int) ∧ (13 : Int) + (d : Int) ≤ (c : Int) ∧ (13 : Int) ≤ 13 + (d : Int) := by omega
  have hc4 : ¬ c = 3 ∧ ¬ c = 6 ∧ ¬ c = 10 ∧ ¬ c = 13 := by omega
  obtain ⟨hc30, hc31, hc32, hc33, hc34⟩ := hc3
  obtain ⟨hc40, hc41, hc42, hc43⟩ := hc4
  have hw1 : IntKind.i64.wrap n3 = n3 := IntWalk.i64_in _ (by omega)
  have hw2 : IntKind.i64.wrap n4 = n4 := IntWalk.i64_in _ (by omega)
  have hw3 : IntKind.i64.wrap (d : Int) = (d : Int) := IntWalk.i64_in _ (by omega)
  have hw4 : IntKind.i64.wrap (13 + (d : Int)) = 13 + (d : Int) := IntWalk.i64_in _ (by omega)
  have hw5 : max (13 + (d : Int)) 0 = 13 + (d : Int) := by omega
  have hw6 : (13 + (d : Int)).toNat = 13 + d := by omega
  have hw7 : 13 + d - 13 = d := by omega
  have hw8 : (0 : Int) ≤ 13 + (d : Int) := by omega
  refine wp_region_held_drew (S := (fun V' => Below v1.heap.size v1 V')) (by kernel_rfl) (by exact (Below.refl _ _).drew) (fun hHeld => ?_)
  refine tkI 0 18 rfl (by intro w hSw; have q10 := (HL.out _ hSw).1; have q11 := (HL.out _ hSw).2; go_simp <;> with_reducible rfl) hHeld ?_; simp only [pqZ]
  refine tkI 1 19 rfl (by intro w hSw; have q10 := (HL.out _ hSw).1; have q11 := (HL.out _ hSw).2; go_simp <;> with_reducible rfl) hHeld ?_; simp only [pqZ]
  refine tkI 3 21 rfl (by intro w hSw; have q10 := (HL.out _ hSw).1; have q11 := (HL.out _ hSw).2; go_simp <;> with_reducible rfl) hHeld ?_; simp only [pqZ]
  refine tkI 4 22 rfl (by intro w hSw; have q10 := (HL.out _ hSw).1; have q11 := (HL.out _ hSw).2; go_simp <;> with_reducible rfl) hHeld ?_; simp only [pqZ]
  refine tkI 6 24 rfl (by intro w hSw; have q10 := (HL.out _ hSw).1; have q11 := (HL.out _ hSw).2; go_simp <;> with_reducible rfl) hHeld ?_; simp only [pqZ]
  refine tkI 7 25 rfl (by intro w hSw; have q10 := (HL.out _ hSw).1; have q11 := (HL.out _ hSw).2; go_simp <;> with_reducible rfl) hHeld ?_; simp only [pqZ]
  refine tkI 9 27 rfl (by intro w hSw; have q10 := (HL.out _ hSw).1; have q11 := (HL.out _ hSw).2; go_simp <;> with_reducible rfl) hHeld ?_; simp only [pqZ]
  refine tkI 10 28 rfl (by intro w hSw; have q10 := (HL.out _ hSw).1; have q11 := (HL.out _ hSw).2; go_simp <;> with_reducible rfl) hHeld ?_; simp only [pqZ]
  refine tkI 11 29 rfl (by intro w hSw; have q10 := (HL.out _ hSw).1; have q11 := (HL.out _ hSw).2; go_simp <;> with_reducible rfl) hHeld ?_; simp only [pqZ]
  refine tkI 12 30 rfl (by intro w hSw; have q10 := (HL.out _ hSw).1; have q11 := (HL.out _ hSw).2; go_simp <;> with_reducible rfl) hHeld ?_; simp only [pqZ]
  refine tkI 13 31 rfl (by intro w hSw; have q10 := (HL.out _ hSw).1; have q11 := (HL.out _ hSw).2; go_simp <;> with_reducible rfl) hHeld ?_; simp only [pqZ]
  refine tkI 14 32 rfl (by intro w hSw; have q10 := (HL.out _ hSw).1; have q11 := (HL.out _ hSw).2; go_simp <;> with_reducible rfl) hHeld ?_; simp only [pqZ]
  refine tkI 15 33 rfl (by intro w hSw; have q10 := (HL.out _ hSw).1; have q11 := (HL.out _ hSw).2; go_simp <;> with_reducible rfl) hHeld ?_; simp only [pqZ]
  refine tkI 16 34 rfl (by intro w hSw; have q10 := (HL.out _ hSw).1; have q11 := (HL.out _ hSw).2; go_simp <;> with_reducible rfl) hHeld ?_; simp only [pqZ]
  refine wpAnyH_ready (rs := [2, 18]) (by kernel_rfl) (by simp) ?_
  refine AllReadyH.cons (o := ⟨some 20, _, _, _, _, _⟩) rfl (fun K hK => ?_) (AllReadyH.cons (o := ⟨some 4, _, _, _, _, _⟩) rfl (fun K hK => ?_) AllReadyH.nil)
  · go_simp
    refine (HG2.out _ hHeld).mono ?_
    rintro e x2 ⟨rfl, rfl⟩
    have hKeep := hHeld
    go_wp2_with fail
    refine hK.out _ _ (by (try dsimp only); exact hKeep) (fun hHeld => ?_); clear hK K hKeep; try simp only [pqZ]
    refine wpAnyH_ready (rs := [5, 18]) (by kernel_rfl) (by simp) ?_
    refine AllReadyH.cons (o := ⟨some 23, _, _, _, _, _⟩) rfl (fun K hK => ?_) (AllReadyH.cons (o := ⟨some 4, _, _, _, _, _⟩) rfl (fun K hK => ?_) AllReadyH.nil)
    · go_simp
      refine (HG5.out _ hHeld).mono ?_
      rintro e x5 ⟨rfl, rfl⟩
      have hKeep := hHeld
      go_wp2_with fail
      refine hK.out _ _ (by (try dsimp only); exact hKeep) (fun hHeld => ?_); clear hK K hKeep; try simp only [pqZ]
      refine wpAnyH_ready (rs := [8, 18]) (by kernel_rfl) (by simp) ?_
      refine AllReadyH.cons (o := ⟨some 26, _, _, _, _, _⟩) rfl (fun K hK => ?_) (AllReadyH.cons (o := ⟨some 4, _, _, _, _, _⟩) rfl (fun K hK => ?_) AllReadyH.nil)
      · go_simp
        refine (HG8.out _ hHeld).mono ?_
        rintro e x8 ⟨rfl, rfl⟩
        have hKeep := hHeld
        go_wp2_with fail
        refine hK.out _ _ (by (try dsimp only); exact hKeep) (fun hHeld => ?_); clear hK K hKeep; try simp only [pqZ]
        refine tkI 17 35 rfl (by intro w hSw; have q10 := (HL.out _ hSw).1; have q11 := (HL.out _ hSw).2; go_simp <;> with_reducible rfl) hHeld ?_; simp only [pqZ]
        refine rdZ 18 4 rfl (by kernel_rfl) (fun K hK => ?_)
        have hHd := hHeld
        have q10 := (HL.out _ hHd).1; have q11 := (HL.out _ hHd).2
        have hHp := hHeld
        have hKeep := since_alloc hHeld (.cells #[.int .i64 0, .int .i64 0, .int .i64 0, .int .i64 0, .int .i64 0, .slice none 0 0] 111)
        go_simp
        refine hK.out _ _ (by (try dsimp only); exact hKeep) (fun hHeld => ?_); clear hK K hKeep; try simp only [pqZ]
        refine wpAnyH_ready (rs := [19]) (by kernel_rfl) (by simp) ?_
        refine AllReadyH.cons (o := ⟨none, _, _, _, _, _⟩) rfl (fun K hK => ?_) AllReadyH.nil
        have hHd := hHeld
        have q10 := (HL.out _ hHd).1; have q11 := (HL.out _ hHd).2
        have hKeep := since_alloc hHp (.cells #[.int .i64 n0, .int .i64 n1, .int .i64 n2, .int .i64 n3, .int .i64 n4, .slice none 0 0] 111)
        skip
        go_simp
        refine hK.out _ _ (by (try dsimp only); exact hKeep) (fun hHeld => ?_); clear hK K hKeep; try simp only [pqZ]
        refine wpAnyH_done (by kernel_rfl) ?_ _
        have hV2 : Below v1.heap.size v1 (v1.alloc (.cells #[.int .i64 n0, .int .i64 n1, .int .i64 n2, .int .i64 n3, .int .i64 n4, .slice none 0 0] 111)).drew := hHeld
        have hbF := box6 (w := v1) (V := (v1.alloc (.cells #[.int .i64 n0, .int .i64 n1, .int .i64 n2, .int .i64 n3, .int .i64 n4, .slice none 0 0] 111)).drew) (by exact (Below.refl _ (v1.alloc (.cells #[.int .i64 n0, .int .i64 n1, .int .i64 n2, .int .i64 n3, .int .i64 n4, .slice none 0 0] 111))).drew)
        obtain ⟨z0, z1, z2, z3, z4, z5⟩ := hbF
        have hzz : ∀ i, (v1.alloc (.cells #[.int .i64 n0, .int .i64 n1, .int .i64 n2, .int .i64 n3, .int .i64 n4, .slice none 0 0] 111)).drew.frozen? ⟨v1.heap.size, i, none⟩ = false := fun i => frozen_new v1 _ _ i
        have hzl : v1.heap.size < (v1.alloc (.cells #[.int .i64 n0, .int .i64 n1, .int .i64 n2, .int .i64 n3, .int .i64 n4, .slice none 0 0] 111)).drew.heap.size := by rw [World.size_drew, World.size_alloc]; omega
        clear hHp hHeld
        generalize hV2w : (v1.alloc (.cells #[.int .i64 n0, .int .i64 n1, .int .i64 n2, .int .i64 n3, .int .i64 n4, .slice none 0 0] 111)).drew = v2 at *
        clear hV2w
        have HL12 : Hid (∀ V, Below v1.heap.size v1 V → V.cell? ⟨b, o + 12, none⟩ = some (.int .u8 (d : Int))) := Lib.hid fun V hV => (hV.cell (p := ⟨b, o + 12, none⟩) HBL.out).trans HC12.out
        have hsd := (HSL.out.below hV2).seg 13 d
        go_wp2_with fail
        refine wp_region_held_drew (S := (fun V' => Below v1.heap.size v1 V')) (by kernel_rfl) (by exact hV2.drew) (fun hHeld => ?_)
        refine tkI 0 36 rfl (by intro w hSw; have q12 := HL12.out _ hSw; go_simp <;> with_reducible rfl) hHeld ?_; simp only [pqZ]
        refine tkI 2 38 rfl (by intro w hSw; have q12 := HL12.out _ hSw; go_simp <;> with_reducible rfl) hHeld ?_; simp only [pqZ]
        refine tkI 3 39 rfl (by intro w hSw; have q12 := HL12.out _ hSw; go_simp <;> with_reducible rfl) hHeld ?_; simp only [pqZ]
        refine tkI 4 40 rfl (by intro w hSw; have q12 := HL12.out _ hSw; go_simp <;> with_reducible rfl) hHeld ?_; simp only [pqZ]
        refine tkI 5 41 rfl (by intro w hSw; have q12 := HL12.out _ hSw; go_simp <;> with_reducible rfl) hHeld ?_; simp only [pqZ]
        refine tkI 6 42 rfl (by intro w hSw; have q12 := HL12.out _ hSw; go_simp <;> with_reducible rfl) hHeld ?_; simp only [pqZ]
        refine tkI 7 43 rfl (by intro w hSw; have q12 := HL12.out _ hSw; go_simp <;> with_reducible rfl) hHeld ?_; simp only [pqZ]
        refine tkI 8 44 rfl (by intro w hSw; have q12 := HL12.out _ hSw; go_simp <;> with_reducible rfl) hHeld ?_; simp only [pqZ]
        refine rdZ 1 37 rfl (by kernel_rfl) (fun K hK => ?_)
        have hHd := hHeld
        have q12 := HL12.out _ hHd
        have hKeep := hHeld
        skip
        go_simp
        refine hK.out _ _ (by (try dsimp only); exact hKeep) (fun hHeld => ?_); clear hK K hKeep; try simp only [pqZ]
        refine rdZ 9 45 rfl (by kernel_rfl) (fun K hK => ?_)
        refine step_app rfl (.tmp 37) (.tmp 44) rfl EF8 (base := v2.heap.size) rfl rfl (own_nil _ _ _) (m := d) (news := by8 (seg l 13 d)) (by rw [by8_length, HSL2.out]; omega) hsd (by8_one _) (by unfold maxLen; omega) (by omega) (Nat.le_refl _) ?_
        intro A3 c3 w3 own3 hg3 hb3
        simp only [Nat.zero_add, List.nil_append] at own3 ⊢
        have hb3 : Below v2.heap.size v2 w3 := ⟨hb3.os, hb3.tape, hb3.output, hb3.size, hb3.block⟩
        have hKeep : Below v1.heap.size v1 w3 := hV2.trans (hb3.mono hV2.size)
        have z5b := (hb3.cell (p := ⟨v1.heap.size, 5, none⟩) hzl).trans z5
        have z0b := (hb3.cell (p := ⟨v1.heap.size, 0, none⟩) hzl).trans z0
        have z1b := (hb3.cell (p := ⟨v1.heap.size, 1, none⟩) hzl).trans z1
        have z2b := (hb3.cell (p := ⟨v1.heap.size, 2, none⟩) hzl).trans z2
        have z3b := (hb3.cell (p := ⟨v1.heap.size, 3, none⟩) hzl).trans z3
        have z4b := (hb3.cell (p := ⟨v1.heap.size, 4, none⟩) hzl).trans z4
        have hzzb : ∀ i, w3.frozen? ⟨v1.heap.size, i, none⟩ = false := fun i => (hb3.frozen (p := ⟨v1.heap.size, i, none⟩) hzl).trans (hzz i)
        have hzlb : v1.heap.size < w3.heap.size := Nat.lt_of_lt_of_le hzl hb3.size
        have hKp := hKeep
        refine hK.out _ _ (by (try dsimp only); exact hKeep) (fun hHeld => ?_); clear hK K hKeep; try simp only [pqZ]
        refine tkI 10 46 rfl (by intro w hSw; have q12 := HL12.out _ hSw; go_simp <;> with_reducible rfl) hHeld ?_; simp only [pqZ]
        refine wpAnyH_ready (rs := [11]) (by kernel_rfl) (by simp) ?_
        refine AllReadyH.cons (o := ⟨none, _, _, _, _, _⟩) rfl (fun K hK => ?_) AllReadyH.nil
        have hHd := hHeld
        have q12 := HL12.out _ hHd
        have hKeep := Below.setCell hKp (p := ⟨v1.heap.size, 5, none⟩) (Nat.le_refl _) (.slice A3 d c3)
        skip
        go_simp
        refine hK.out _ _ (by (try dsimp only); exact hKeep) (fun hHeld => ?_); clear hK K hKeep; try simp only [pqZ]
        refine wpAnyH_done (by kernel_rfl) ?_ _
        have hBw3 : Below w.heap.size w w3 := HBW.out.trans (hKp.mono HSZ.out)
        have own4 := own_far1 own3 (p := ⟨v1.heap.size, 5, none⟩) (fun e => by have := own_ge own3 _ e; simp at this; omega) (.slice A3 d c3)
        have own4 := own_base own4 (show w.heap.size + 1 ≤ v2.heap.size by have := HSZ1.out; have := hV2.size; omega)
        have hB4 := HB0.out.trans ((Below.setCell hKp (p := ⟨v1.heap.size, 5, none⟩) (Nat.le_refl _) (.slice A3 d c3)).mono HSZ1.out)
        have hwl := HSZ.out
        have hvl : v1.heap.size < (w3.setCell ⟨v1.heap.size, 5, none⟩ (.slice A3 d c3)).heap.size := by simpa using hzlb
        have u : ∀ i, (w3.setCell ⟨v1.heap.size, 5, none⟩ (.slice A3 d c3)).cell? ⟨v1.heap.size, i, none⟩ = if i = 5 then some (.slice A3 d c3) else w3.cell? ⟨v1.heap.size, i, none⟩ := by
          intro i
          by_cases hi : i = 5
          · subst hi; rw [if_pos rfl]; exact World.cell?_setCell_same w3 _ _ z5b
          · rw [if_neg hi]; exact World.cell?_setCell_other w3 _ _ _ (by intro e; injection e with _ e2; exact hi e2.symm)
        have u0 := (u 0).trans ((if_neg (by decide)).trans z0b)
        have u1 := (u 1).trans ((if_neg (by decide)).trans z1b)
        have u2 := (u 2).trans ((if_neg (by decide)).trans z2b)
        have u3 := (u 3).trans ((if_neg (by decide)).trans z3b)
        have u4 := (u 4).trans ((if_neg (by decide)).trans z4b)
        have u5 := (u 5).trans (if_pos rfl)
        have hsl4 := Sl.of_own own4
        generalize hW4 : w3.setCell ⟨v1.heap.size, 5, none⟩ (.slice A3 d c3) = w4 at *
        clear u z0b z1b z2b z3b z4b z5b z0 z1 z2 z3 z4 z5 hzzb hzz hzlb hzl own3 hKp hg3 hb3 hHeld hV2 hsd
        go_wp2_with fail
        have henc := HENC.out A3 c3 w4 hsl4
        refine henc.mono ?_
        rintro e w5 ⟨⟨A5, c5, rfl, own5⟩, hb5⟩
        have hB5 := hB4.trans (hb5.mono (Nat.le_trans (Nat.le_of_lt_succ (Nat.lt_succ_of_lt (Nat.lt_of_le_of_lt HSZ1.out hvl))) (Nat.le_refl _)))
        have hvl5 : v1.heap.size < w5.heap.size := Nat.lt_of_lt_of_le hvl hb5.size
        have t0 := (hb5.cell (p := ⟨v1.heap.size, 0, none⟩) hvl).trans u0
        have t1 := (hb5.cell (p := ⟨v1.heap.size, 1, none⟩) hvl).trans u1
        have t2 := (hb5.cell (p := ⟨v1.heap.size, 2, none⟩) hvl).trans u2
        have t3 := (hb5.cell (p := ⟨v1.heap.size, 3, none⟩) hvl).trans u3
        have t4 := (hb5.cell (p := ⟨v1.heap.size, 4, none⟩) hvl).trans u4
        have t5 := (hb5.cell (p := ⟨v1.heap.size, 5, none⟩) hvl).trans u5
        have own6 := own_below own4 hb5
        obtain ⟨y0, y1, y2, y3, y4, y5⟩ := HBX.out _ hB5
        obtain ⟨hfz, hglt⟩ := HFZ.out _ hB5
        have hBw5 : Below w.heap.size w w5 := HBW0.out _ hB5
        clear henc hb5 u0 u1 u2 u3 u4 u5 own4 hsl4
        rw [HENF.out] at own5 ⊢
        simp only at own5 ⊢
        go_wp2_with fail
        refine bodyPost_ret (v := .tuple #[.agg #[.int .i64 0, .int .i64 0, .int .i64 0, .int .i64 0, .int .i64 0, .slice none 0 0], .int .i64 3]) ?_ rfl ⟨DRes.no _ _, ?_⟩
        · simp [results, Try.results63, go_sem, cell_set, y0, y1, y2, y3, y4, y5]
        · exact Below.setCell (Below.setCell (Below.setCell (Below.setCell (Below.setCell (Below.setCell hBw5 (Nat.le_refl _) _) (Nat.le_refl _) _) (Nat.le_refl _) _) (Nat.le_refl _) _) (Nat.le_refl _) _) (Nat.le_refl _) _
      · have hHd := hHeld
        have q10 := (HL.out _ hHd).1; have q11 := (HL.out _ hHd).2
        have hHp := hHeld
        have hKeep := since_alloc hHeld (.cells #[.int .i64 0, .int .i64 0, .int .i64 0, .int .i64 0, .int .i64 0, .slice none 0 0] 111)
        go_simp
        refine hK.out _ _ (by (try dsimp only); exact hKeep) (fun hHeld => ?_); clear hK K hKeep; try simp only [pqZ]
        refine rdZ 8 26 rfl (by kernel_rfl) (fun K hK => ?_)
        go_simp
        refine (HG8.out _ hHeld).mono ?_
        rintro e x8 ⟨rfl, rfl⟩
        have hKeep := hHeld
        go_wp2_with fail
        refine hK.out _ _ (by (try dsimp only); exact hKeep) (fun hHeld => ?_); clear hK K hKeep; try simp only [pqZ]
        refine tkI 17 35 rfl (by intro w hSw; have q10 := (HL.out _ hSw).1; have q11 := (HL.out _ hSw).2; go_simp <;> with_reducible rfl) hHeld ?_; simp only [pqZ]
        refine wpAnyH_ready (rs := [19]) (by kernel_rfl) (by simp) ?_
        refine AllReadyH.cons (o := ⟨none, _, _, _, _, _⟩) rfl (fun K hK => ?_) AllReadyH.nil
        have hHd := hHeld
        have q10 := (HL.out _ hHd).1; have q11 := (HL.out _ hHd).2
        have hKeep := since_alloc hHp (.cells #[.int .i64 n0, .int .i64 n1, .int .i64 n2, .int .i64 n3, .int .i64 n4, .slice none 0 0] 111)
        skip
        go_simp
        refine hK.out _ _ (by (try dsimp only); exact hKeep) (fun hHeld => ?_); clear hK K hKeep; try simp only [pqZ]
        refine wpAnyH_done (by kernel_rfl) ?_ _
        have hV2 : Below v1.heap.size v1 (v1.alloc (.cells #[.int .i64 n0, .int .i64 n1, .int .i64 n2, .int .i64 n3, .int .i64 n4, .slice none 0 0] 111)).drew := hHeld
        have hbF := box6 (w := v1) (V := (v1.alloc (.cells #[.int .i64 n0, .int .i64 n1, .int .i64 n2, .int .i64 n3, .int .i64 n4, .slice none 0 0] 111)).drew) (by exact (Below.refl _ (v1.alloc (.cells #[.int .i64 n0, .int .i64 n1, .int .i64 n2, .int .i64 n3, .int .i64 n4, .slice none 0 0] 111))).drew)
        obtain ⟨z0, z1, z2, z3, z4, z5⟩ := hbF
        have hzz : ∀ i, (v1.alloc (.cells #[.int .i64 n0, .int .i64 n1, .int .i64 n2, .int .i64 n3, .int .i64 n4, .slice none 0 0] 111)).drew.frozen? ⟨v1.heap.size, i, none⟩ = false := fun i => frozen_new v1 _ _ i
        have hzl : v1.heap.size < (v1.alloc (.cells #[.int .i64 n0, .int .i64 n1, .int .i64 n2, .int .i64 n3, .int .i64 n4, .slice none 0 0] 111)).drew.heap.size := by rw [World.size_drew, World.size_alloc]; omega
        clear hHp hHeld
        generalize hV2w : (v1.alloc (.cells #[.int .i64 n0, .int .i64 n1, .int .i64 n2, .int .i64 n3, .int .i64 n4, .slice none 0 0] 111)).drew = v2 at *
        clear hV2w
        have HL12 : Hid (∀ V, Below v1.heap.size v1 V → V.cell? ⟨b, o + 12, none⟩ = some (.int .u8 (d : Int))) := Lib.hid fun V hV => (hV.cell (p := ⟨b, o + 12, none⟩) HBL.out).trans HC12.out
        have hsd := (HSL.out.below hV2).seg 13 d
        go_wp2_with fail
        refine wp_region_held_drew (S := (fun V' => Below v1.heap.size v1 V')) (by kernel_rfl) (by exact hV2.drew) (fun hHeld => ?_)
        refine tkI 0 36 rfl (by intro w hSw; have q12 := HL12.out _ hSw; go_simp <;> with_reducible rfl) hHeld ?_; simp only [pqZ]
        refine tkI 2 38 rfl (by intro w hSw; have q12 := HL12.out _ hSw; go_simp <;> with_reducible rfl) hHeld ?_; simp only [pqZ]
        refine tkI 3 39 rfl (by intro w hSw; have q12 := HL12.out _ hSw; go_simp <;> with_reducible rfl) hHeld ?_; simp only [pqZ]
        refine tkI 4 40 rfl (by intro w hSw; have q12 := HL12.out _ hSw; go_simp <;> with_reducible rfl) hHeld ?_; simp only [pqZ]
        refine tkI 5 41 rfl (by intro w hSw; have q12 := HL12.out _ hSw; go_simp <;> with_reducible rfl) hHeld ?_; simp only [pqZ]
        refine tkI 6 42 rfl (by intro w hSw; have q12 := HL12.out _ hSw; go_simp <;> with_reducible rfl) hHeld ?_; simp only [pqZ]
        refine tkI 7 43 rfl (by intro w hSw; have q12 := HL12.out _ hSw; go_simp <;> with_reducible rfl) hHeld ?_; simp only [pqZ]
        refine tkI 8 44 rfl (by intro w hSw; have q12 := HL12.out _ hSw; go_simp <;> with_reducible rfl) hHeld ?_; simp only [pqZ]
        refine rdZ 1 37 rfl (by kernel_rfl) (fun K hK => ?_)
        have hHd := hHeld
        have q12 := HL12.out _ hHd
        have hKeep := hHeld
        skip
        go_simp
        refine hK.out _ _ (by (try dsimp only); exact hKeep) (fun hHeld => ?_); clear hK K hKeep; try simp only [pqZ]
        refine rdZ 9 45 rfl (by kernel_rfl) (fun K hK => ?_)
        refine step_app rfl (.tmp 37) (.tmp 44) rfl EF8 (base := v2.heap.size) rfl rfl (own_nil _ _ _) (m := d) (news := by8 (seg l 13 d)) (by rw [by8_length, HSL2.out]; omega) hsd (by8_one _) (by unfold maxLen; omega) (by omega) (Nat.le_refl _) ?_
        intro A3 c3 w3 own3 hg3 hb3
        simp only [Nat.zero_add, List.nil_append] at own3 ⊢
        have hb3 : Below v2.heap.size v2 w3 := ⟨hb3.os, hb3.tape, hb3.output, hb3.size, hb3.block⟩
        have hKeep : Below v1.heap.size v1 w3 := hV2.trans (hb3.mono hV2.size)
        have z5b := (hb3.cell (p := ⟨v1.heap.size, 5, none⟩) hzl).trans z5
        have z0b := (hb3.cell (p := ⟨v1.heap.size, 0, none⟩) hzl).trans z0
        have z1b := (hb3.cell (p := ⟨v1.heap.size, 1, none⟩) hzl).trans z1
        have z2b := (hb3.cell (p := ⟨v1.heap.size, 2, none⟩) hzl).trans z2
        have z3b := (hb3.cell (p := ⟨v1.heap.size, 3, none⟩) hzl).trans z3
        have z4b := (hb3.cell (p := ⟨v1.heap.size, 4, none⟩) hzl).trans z4
        have hzzb : ∀ i, w3.frozen? ⟨v1.heap.size, i, none⟩ = false := fun i => (hb3.frozen (p := ⟨v1.heap.size, i, none⟩) hzl).trans (hzz i)
        have hzlb : v1.heap.size < w3.heap.size := Nat.lt_of_lt_of_le hzl hb3.size
        have hKp := hKeep
        refine hK.out _ _ (by (try dsimp only); exact hKeep) (fun hHeld => ?_); clear hK K hKeep; try simp only [pqZ]
        refine tkI 10 46 rfl (by intro w hSw; have q12 := HL12.out _ hSw; go_simp <;> with_reducible rfl) hHeld ?_; simp only [pqZ]
        refine wpAnyH_ready (rs := [11]) (by kernel_rfl) (by simp) ?_
        refine AllReadyH.cons (o := ⟨none, _, _, _, _, _⟩) rfl (fun K hK => ?_) AllReadyH.nil
        have hHd := hHeld
        have q12 := HL12.out _ hHd
        have hKeep := Below.setCell hKp (p := ⟨v1.heap.size, 5, none⟩) (Nat.le_refl _) (.slice A3 d c3)
        skip
        go_simp
        refine hK.out _ _ (by (try dsimp only); exact hKeep) (fun hHeld => ?_); clear hK K hKeep; try simp only [pqZ]
        refine wpAnyH_done (by kernel_rfl) ?_ _
        have hBw3 : Below w.heap.size w w3 := HBW.out.trans (hKp.mono HSZ.out)
        have own4 := own_far1 own3 (p := ⟨v1.heap.size, 5, none⟩) (fun e => by have := own_ge own3 _ e; simp at this; omega) (.slice A3 d c3)
        have own4 := own_base own4 (show w.heap.size + 1 ≤ v2.heap.size by have := HSZ1.out; have := hV2.size; omega)
        have hB4 := HB0.out.trans ((Below.setCell hKp (p := ⟨v1.heap.size, 5, none⟩) (Nat.le_refl _) (.slice A3 d c3)).mono HSZ1.out)
        have hwl := HSZ.out
        have hvl : v1.heap.size < (w3.setCell ⟨v1.heap.size, 5, none⟩ (.slice A3 d c3)).heap.size := by simpa using hzlb
        have u : ∀ i, (w3.setCell ⟨v1.heap.size, 5, none⟩ (.slice A3 d c3)).cell? ⟨v1.heap.size, i, none⟩ = if i = 5 then some (.slice A3 d c3) else w3.cell? ⟨v1.heap.size, i, none⟩ := by
          intro i
          by_cases hi : i = 5
          · subst hi; rw [if_pos rfl]; exact World.cell?_setCell_same w3 _ _ z5b
          · rw [if_neg hi]; exact World.cell?_setCell_other w3 _ _ _ (by intro e; injection e with _ e2; exact hi e2.symm)
        have u0 := (u 0).trans ((if_neg (by decide)).trans z0b)
        have u1 := (u 1).trans ((if_neg (by decide)).trans z1b)
        have u2 := (u 2).trans ((if_neg (by decide)).trans z2b)
        have u3 := (u 3).trans ((if_neg (by decide)).trans z3b)
        have u4 := (u 4).trans ((if_neg (by decide)).trans z4b)
        have u5 := (u 5).trans (if_pos rfl)
        have hsl4 := Sl.of_own own4
        generalize hW4 : w3.setCell ⟨v1.heap.size, 5, none⟩ (.slice A3 d c3) = w4 at *
        clear u z0b z1b z2b z3b z4b z5b z0 z1 z2 z3 z4 z5 hzzb hzz hzlb hzl own3 hKp hg3 hb3 hHeld hV2 hsd
        go_wp2_with fail
        have henc := HENC.out A3 c3 w4 hsl4
        refine henc.mono ?_
        rintro e w5 ⟨⟨A5, c5, rfl, own5⟩, hb5⟩
        have hB5 := hB4.trans (hb5.mono (Nat.le_trans (Nat.le_of_lt_succ (Nat.lt_succ_of_lt (Nat.lt_of_le_of_lt HSZ1.out hvl))) (Nat.le_refl _)))
        have hvl5 : v1.heap.size < w5.heap.size := Nat.lt_of_lt_of_le hvl hb5.size
        have t0 := (hb5.cell (p := ⟨v1.heap.size, 0, none⟩) hvl).trans u0
        have t1 := (hb5.cell (p := ⟨v1.heap.size, 1, none⟩) hvl).trans u1
        have t2 := (hb5.cell (p := ⟨v1.heap.size, 2, none⟩) hvl).trans u2
        have t3 := (hb5.cell (p := ⟨v1.heap.size, 3, none⟩) hvl).trans u3
        have t4 := (hb5.cell (p := ⟨v1.heap.size, 4, none⟩) hvl).trans u4
        have t5 := (hb5.cell (p := ⟨v1.heap.size, 5, none⟩) hvl).trans u5
        have own6 := own_below own4 hb5
        obtain ⟨y0, y1, y2, y3, y4, y5⟩ := HBX.out _ hB5
        obtain ⟨hfz, hglt⟩ := HFZ.out _ hB5
        have hBw5 : Below w.heap.size w w5 := HBW0.out _ hB5
        clear henc hb5 u0 u1 u2 u3 u4 u5 own4 hsl4
        rw [HENF.out] at own5 ⊢
        simp only at own5 ⊢
        go_wp2_with fail
        refine bodyPost_ret (v := .tuple #[.agg #[.int .i64 0, .int .i64 0, .int .i64 0, .int .i64 0, .int .i64 0, .slice none 0 0], .int .i64 3]) ?_ rfl ⟨DRes.no _ _, ?_⟩
        · simp [results, Try.results63, go_sem, cell_set, y0, y1, y2, y3, y4, y5]
        · exact Below.setCell (Below.setCell (Below.setCell (Below.setCell (Below.setCell (Below.setCell hBw5 (Nat.le_refl _) _) (Nat.le_refl _) _) (Nat.le_refl _) _) (Nat.le_refl _) _) (Nat.le_refl _) _) (Nat.le_refl _) _
    · have hHd := hHeld
      have q10 := (HL.out _ hHd).1; have q11 := (HL.out _ hHd).2
      have hHp := hHeld
      have hKeep := since_alloc hHeld (.cells #[.int .i64 0, .int .i64 0, .int .i64 0, .int .i64 0, .int .i64 0, .slice none 0 0] 111)
      go_simp
      refine hK.out _ _ (by (try dsimp only); exact hKeep) (fun hHeld => ?_); clear hK K hKeep; try simp only [pqZ]
      refine rdZ 5 23 rfl (by kernel_rfl) (fun K hK => ?_)
      go_simp
      refine (HG5.out _ hHeld).mono ?_
      rintro e x5 ⟨rfl, rfl⟩
      have hKeep := hHeld
      go_wp2_with fail
      refine hK.out _ _ (by (try dsimp only); exact hKeep) (fun hHeld => ?_); clear hK K hKeep; try simp only [pqZ]
      refine rdZ 8 26 rfl (by kernel_rfl) (fun K hK => ?_)
      go_simp
      refine (HG8.out _ hHeld).mono ?_
      rintro e x8 ⟨rfl, rfl⟩
      have hKeep := hHeld
      go_wp2_with fail
      refine hK.out _ _ (by (try dsimp only); exact hKeep) (fun hHeld => ?_); clear hK K hKeep; try simp only [pqZ]
      refine tkI 17 35 rfl (by intro w hSw; have q10 := (HL.out _ hSw).1; have q11 := (HL.out _ hSw).2; go_simp <;> with_reducible rfl) hHeld ?_; simp only [pqZ]
      refine wpAnyH_ready (rs := [19]) (by kernel_rfl) (by simp) ?_
      refine AllReadyH.cons (o := ⟨none, _, _, _, _, _⟩) rfl (fun K hK => ?_) AllReadyH.nil
      have hHd := hHeld
      have q10 := (HL.out _ hHd).1; have q11 := (HL.out _ hHd).2
      have hKeep := since_alloc hHp (.cells #[.int .i64 n0, .int .i64 n1, .int .i64 n2, .int .i64 n3, .int .i64 n4, .slice none 0 0] 111)
      skip
      go_simp
      refine hK.out _ _ (by (try dsimp only); exact hKeep) (fun hHeld => ?_); clear hK K hKeep; try simp only [pqZ]
      refine wpAnyH_done (by kernel_rfl) ?_ _
      have hV2 : Below v1.heap.size v1 (v1.alloc (.cells #[.int .i64 n0, .int .i64 n1, .int .i64 n2, .int .i64 n3, .int .i64 n4, .slice none 0 0] 111)).drew := hHeld
      have hbF := box6 (w := v1) (V := (v1.alloc (.cells #[.int .i64 n0, .int .i64 n1, .int .i64 n2, .int .i64 n3, .int .i64 n4, .slice none 0 0] 111)).drew) (by exact (Below.refl _ (v1.alloc (.cells #[.int .i64 n0, .int .i64 n1, .int .i64 n2, .int .i64 n3, .int .i64 n4, .slice none 0 0] 111))).drew)
      obtain ⟨z0, z1, z2, z3, z4, z5⟩ := hbF
      have hzz : ∀ i, (v1.alloc (.cells #[.int .i64 n0, .int .i64 n1, .int .i64 n2, .int .i64 n3, .int .i64 n4, .slice none 0 0] 111)).drew.frozen? ⟨v1.heap.size, i, none⟩ = false := fun i => frozen_new v1 _ _ i
      have hzl : v1.heap.size < (v1.alloc (.cells #[.int .i64 n0, .int .i64 n1, .int .i64 n2, .int .i64 n3, .int .i64 n4, .slice none 0 0] 111)).drew.heap.size := by rw [World.size_drew, World.size_alloc]; omega
      clear hHp hHeld
      generalize hV2w : (v1.alloc (.cells #[.int .i64 n0, .int .i64 n1, .int .i64 n2, .int .i64 n3, .int .i64 n4, .slice none 0 0] 111)).drew = v2 at *
      clear hV2w
      have HL12 : Hid (∀ V, Below v1.heap.size v1 V → V.cell? ⟨b, o + 12, none⟩ = some (.int .u8 (d : Int))) := Lib.hid fun V hV => (hV.cell (p := ⟨b, o + 12, none⟩) HBL.out).trans HC12.out
      have hsd := (HSL.out.below hV2).seg 13 d
      go_wp2_with fail
      refine wp_region_held_drew (S := (fun V' => Below v1.heap.size v1 V')) (by kernel_rfl) (by exact hV2.drew) (fun hHeld => ?_)
      refine tkI 0 36 rfl (by intro w hSw; have q12 := HL12.out _ hSw; go_simp <;> with_reducible rfl) hHeld ?_; simp only [pqZ]
      refine tkI 2 38 rfl (by intro w hSw; have q12 := HL12.out _ hSw; go_simp <;> with_reducible rfl) hHeld ?_; simp only [pqZ]
      refine tkI 3 39 rfl (by intro w hSw; have q12 := HL12.out _ hSw; go_simp <;> with_reducible rfl) hHeld ?_; simp only [pqZ]
      refine tkI 4 40 rfl (by intro w hSw; have q12 := HL12.out _ hSw; go_simp <;> with_reducible rfl) hHeld ?_; simp only [pqZ]
      refine tkI 5 41 rfl (by intro w hSw; have q12 := HL12.out _ hSw; go_simp <;> with_reducible rfl) hHeld ?_; simp only [pqZ]
      refine tkI 6 42 rfl (by intro w hSw; have q12 := HL12.out _ hSw; go_simp <;> with_reducible rfl) hHeld ?_; simp only [pqZ]
      refine tkI 7 43 rfl (by intro w hSw; have q12 := HL12.out _ hSw; go_simp <;> with_reducible rfl) hHeld ?_; simp only [pqZ]
      refine tkI 8 44 rfl (by intro w hSw; have q12 := HL12.out _ hSw; go_simp <;> with_reducible rfl) hHeld ?_; simp only [pqZ]
      refine rdZ 1 37 rfl (by kernel_rfl) (fun K hK => ?_)
      have hHd := hHeld
      have q12 := HL12.out _ hHd
      have hKeep := hHeld
      skip
      go_simp
      refine hK.out _ _ (by (try dsimp only); exact hKeep) (fun hHeld => ?_); clear hK K hKeep; try simp only [pqZ]
      refine rdZ 9 45 rfl (by kernel_rfl) (fun K hK => ?_)
      refine step_app rfl (.tmp 37) (.tmp 44) rfl EF8 (base := v2.heap.size) rfl rfl (own_nil _ _ _) (m := d) (news := by8 (seg l 13 d)) (by rw [by8_length, HSL2.out]; omega) hsd (by8_one _) (by unfold maxLen; omega) (by omega) (Nat.le_refl _) ?_
      intro A3 c3 w3 own3 hg3 hb3
      simp only [Nat.zero_add, List.nil_append] at own3 ⊢
      have hb3 : Below v2.heap.size v2 w3 := ⟨hb3.os, hb3.tape, hb3.output, hb3.size, hb3.block⟩
      have hKeep : Below v1.heap.size v1 w3 := hV2.trans (hb3.mono hV2.size)
      have z5b := (hb3.cell (p := ⟨v1.heap.size, 5, none⟩) hzl).trans z5
      have z0b := (hb3.cell (p := ⟨v1.heap.size, 0, none⟩) hzl).trans z0
      have z1b := (hb3.cell (p := ⟨v1.heap.size, 1, none⟩) hzl).trans z1
      have z2b := (hb3.cell (p := ⟨v1.heap.size, 2, none⟩) hzl).trans z2
      have z3b := (hb3.cell (p := ⟨v1.heap.size, 3, none⟩) hzl).trans z3
      have z4b := (hb3.cell (p := ⟨v1.heap.size, 4, none⟩) hzl).trans z4
      have hzzb : ∀ i, w3.frozen? ⟨v1.heap.size, i, none⟩ = false := fun i => (hb3.frozen (p := ⟨v1.heap.size, i, none⟩) hzl).trans (hzz i)
      have hzlb : v1.heap.size < w3.heap.size := Nat.lt_of_lt_of_le hzl hb3.size
      have hKp := hKeep
      refine hK.out _ _ (by (try dsimp only); exact hKeep) (fun hHeld => ?_); clear hK K hKeep; try simp only [pqZ]
      refine tkI 10 46 rfl (by intro w hSw; have q12 := HL12.out _ hSw; go_simp <;> with_reducible rfl) hHeld ?_; simp only [pqZ]
      refine wpAnyH_ready (rs := [11]) (by kernel_rfl) (by simp) ?_
      refine AllReadyH.cons (o := ⟨none, _, _, _, _, _⟩) rfl (fun K hK => ?_) AllReadyH.nil
      have hHd := hHeld
      have q12 := HL12.out _ hHd
      have hKeep := Below.setCell hKp (p := ⟨v1.heap.size, 5, none⟩) (Nat.le_refl _) (.slice A3 d c3)
      skip
      go_simp
      refine hK.out _ _ (by (try dsimp only); exact hKeep) (fun hHeld => ?_); clear hK K hKeep; try simp only [pqZ]
      refine wpAnyH_done (by kernel_rfl) ?_ _
      have hBw3 : Below w.heap.size w w3 := HBW.out.trans (hKp.mono HSZ.out)
      have own4 := own_far1 own3 (p := ⟨v1.heap.size, 5, none⟩) (fun e => by have := own_ge own3 _ e; simp at this; omega) (.slice A3 d c3)
      have own4 := own_base own4 (show w.heap.size + 1 ≤ v2.heap.size by have := HSZ1.out; have := hV2.size; omega)
      have hB4 := HB0.out.trans ((Below.setCell hKp (p := ⟨v1.heap.size, 5, none⟩) (Nat.le_refl _) (.slice A3 d c3)).mono HSZ1.out)
      have hwl := HSZ.out
      have hvl : v1.heap.size < (w3.setCell ⟨v1.heap.size, 5, none⟩ (.slice A3 d c3)).heap.size := by simpa using hzlb
      have u : ∀ i, (w3.setCell ⟨v1.heap.size, 5, none⟩ (.slice A3 d c3)).cell? ⟨v1.heap.size, i, none⟩ = if i = 5 then some (.slice A3 d c3) else w3.cell? ⟨v1.heap.size, i, none⟩ := by
        intro i
        by_cases hi : i = 5
        · subst hi; rw [if_pos rfl]; exact World.cell?_setCell_same w3 _ _ z5b
        · rw [if_neg hi]; exact World.cell?_setCell_other w3 _ _ _ (by intro e; injection e with _ e2; exact hi e2.symm)
      have u0 := (u 0).trans ((if_neg (by decide)).trans z0b)
      have u1 := (u 1).trans ((if_neg (by decide)).trans z1b)
      have u2 := (u 2).trans ((if_neg (by decide)).trans z2b)
      have u3 := (u 3).trans ((if_neg (by decide)).trans z3b)
      have u4 := (u 4).trans ((if_neg (by decide)).trans z4b)
      have u5 := (u 5).trans (if_pos rfl)
      have hsl4 := Sl.of_own own4
      generalize hW4 : w3.setCell ⟨v1.heap.size, 5, none⟩ (.slice A3 d c3) = w4 at *
      clear u z0b z1b z2b z3b z4b z5b z0 z1 z2 z3 z4 z5 hzzb hzz hzlb hzl own3 hKp hg3 hb3 hHeld hV2 hsd
      go_wp2_with fail
      have henc := HENC.out A3 c3 w4 hsl4
      refine henc.mono ?_
      rintro e w5 ⟨⟨A5, c5, rfl, own5⟩, hb5⟩
      have hB5 := hB4.trans (hb5.mono (Nat.le_trans (Nat.le_of_lt_succ (Nat.lt_succ_of_lt (Nat.lt_of_le_of_lt HSZ1.out hvl))) (Nat.le_refl _)))
      have hvl5 : v1.heap.size < w5.heap.size := Nat.lt_of_lt_of_le hvl hb5.size
      have t0 := (hb5.cell (p := ⟨v1.heap.size, 0, none⟩) hvl).trans u0
      have t1 := (hb5.cell (p := ⟨v1.heap.size, 1, none⟩) hvl).trans u1
      have t2 := (hb5.cell (p := ⟨v1.heap.size, 2, none⟩) hvl).trans u2
      have t3 := (hb5.cell (p := ⟨v1.heap.size, 3, none⟩) hvl).trans u3
      have t4 := (hb5.cell (p := ⟨v1.heap.size, 4, none⟩) hvl).trans u4
      have t5 := (hb5.cell (p := ⟨v1.heap.size, 5, none⟩) hvl).trans u5
      have own6 := own_below own4 hb5
      obtain ⟨y0, y1, y2, y3, y4, y5⟩ := HBX.out _ hB5
      obtain ⟨hfz, hglt⟩ := HFZ.out _ hB5
      have hBw5 : Below w.heap.size w w5 := HBW0.out _ hB5
      clear henc hb5 u0 u1 u2 u3 u4 u5 own4 hsl4
      rw [HENF.out] at own5 ⊢
      simp only at own5 ⊢
      go_wp2_with fail
      refine bodyPost_ret (v := .tuple #[.agg #[.int .i64 0, .int .i64 0, .int .i64 0, .int .i64 0, .int .i64 0, .slice none 0 0], .int .i64 3]) ?_ rfl ⟨DRes.no _ _, ?_⟩
      · simp [results, Try.results63, go_sem, cell_set, y0, y1, y2, y3, y4, y5]
      · exact Below.setCell (Below.setCell (Below.setCell (Below.setCell (Below.setCell (Below.setCell hBw5 (Nat.le_refl _) _) (Nat.le_refl _) _) (Nat.le_refl _) _) (Nat.le_refl _) _) (Nat.le_refl _) _) (Nat.le_refl _) _
  · have hHd := hHeld
    have q10 := (HL.out _ hHd).1; have q11 := (HL.out _ hHd).2
    have hHp := hHeld
    have hKeep := since_alloc hHeld (.cells #[.int .i64 0, .int .i64 0, .int .i64 0, .int .i64 0, .int .i64 0, .slice none 0 0] 111)
    go_simp
    refine hK.out _ _ (by (try dsimp only); exact hKeep) (fun hHeld => ?_); clear hK K hKeep; try simp only [pqZ]
    refine rdZ 2 20 rfl (by kernel_rfl) (fun K hK => ?_)
    go_simp
    refine (HG2.out _ hHeld).mono ?_
    rintro e x2 ⟨rfl, rfl⟩
    have hKeep := hHeld
    go_wp2_with fail
    refine hK.out _ _ (by (try dsimp only); exact hKeep) (fun hHeld => ?_); clear hK K hKeep; try simp only [pqZ]
    refine rdZ 5 23 rfl (by kernel_rfl) (fun K hK => ?_)
    go_simp
    refine (HG5.out _ hHeld).mono ?_
    rintro e x5 ⟨rfl, rfl⟩
    have hKeep := hHeld
    go_wp2_with fail
    refine hK.out _ _ (by (try dsimp only); exact hKeep) (fun hHeld => ?_); clear hK K hKeep; try simp only [pqZ]
    refine rdZ 8 26 rfl (by kernel_rfl) (fun K hK => ?_)
    go_simp
    refine (HG8.out _ hHeld).mono ?_
    rintro e x8 ⟨rfl, rfl⟩
    have hKeep := hHeld
    go_wp2_with fail
    refine hK.out _ _ (by (try dsimp only); exact hKeep) (fun hHeld => ?_); clear hK K hKeep; try simp only [pqZ]
    refine tkI 17 35 rfl (by intro w hSw; have q10 := (HL.out _ hSw).1; have q11 := (HL.out _ hSw).2; go_simp <;> with_reducible rfl) hHeld ?_; simp only [pqZ]
    refine wpAnyH_ready (rs := [19]) (by kernel_rfl) (by simp) ?_
    refine AllReadyH.cons (o := ⟨none, _, _, _, _, _⟩) rfl (fun K hK => ?_) AllReadyH.nil
    have hHd := hHeld
    have q10 := (HL.out _ hHd).1; have q11 := (HL.out _ hHd).2
    have hKeep := since_alloc hHp (.cells #[.int .i64 n0, .int .i64 n1, .int .i64 n2, .int .i64 n3, .int .i64 n4, .slice none 0 0] 111)
    skip
    go_simp
    refine hK.out _ _ (by (try dsimp only); exact hKeep) (fun hHeld => ?_); clear hK K hKeep; try simp only [pqZ]
    refine wpAnyH_done (by kernel_rfl) ?_ _
    have hV2 : Below v1.heap.size v1 (v1.alloc (.cells #[.int .i64 n0, .int .i64 n1, .int .i64 n2, .int .i64 n3, .int .i64 n4, .slice none 0 0] 111)).drew := hHeld
    have hbF := box6 (w := v1) (V := (v1.alloc (.cells #[.int .i64 n0, .int .i64 n1, .int .i64 n2, .int .i64 n3, .int .i64 n4, .slice none 0 0] 111)).drew) (by exact (Below.refl _ (v1.alloc (.cells #[.int .i64 n0, .int .i64 n1, .int .i64 n2, .int .i64 n3, .int .i64 n4, .slice none 0 0] 111))).drew)
    obtain ⟨z0, z1, z2, z3, z4, z5⟩ := hbF
    have hzz : ∀ i, (v1.alloc (.cells #[.int .i64 n0, .int .i64 n1, .int .i64 n2, .int .i64 n3, .int .i64 n4, .slice none 0 0] 111)).drew.frozen? ⟨v1.heap.size, i, none⟩ = false := fun i => frozen_new v1 _ _ i
    have hzl : v1.heap.size < (v1.alloc (.cells #[.int .i64 n0, .int .i64 n1, .int .i64 n2, .int .i64 n3, .int .i64 n4, .slice none 0 0] 111)).drew.heap.size := by rw [World.size_drew, World.size_alloc]; omega
    clear hHp hHeld
    generalize hV2w : (v1.alloc (.cells #[.int .i64 n0, .int .i64 n1, .int .i64 n2, .int .i64 n3, .int .i64 n4, .slice none 0 0] 111)).drew = v2 at *
    clear hV2w
    have HL12 : Hid (∀ V, Below v1.heap.size v1 V → V.cell? ⟨b, o + 12, none⟩ = some (.int .u8 (d : Int))) := Lib.hid fun V hV => (hV.cell (p := ⟨b, o + 12, none⟩) HBL.out).trans HC12.out
    have hsd := (HSL.out.below hV2).seg 13 d
    go_wp2_with fail
    refine wp_region_held_drew (S := (fun V' => Below v1.heap.size v1 V')) (by kernel_rfl) (by exact hV2.drew) (fun hHeld => ?_)
    refine tkI 0 36 rfl (by intro w hSw; have q12 := HL12.out _ hSw; go_simp <;> with_reducible rfl) hHeld ?_; simp only [pqZ]
    refine tkI 2 38 rfl (by intro w hSw; have q12 := HL12.out _ hSw; go_simp <;> with_reducible rfl) hHeld ?_; simp only [pqZ]
    refine tkI 3 39 rfl (by intro w hSw; have q12 := HL12.out _ hSw; go_simp <;> with_reducible rfl) hHeld ?_; simp only [pqZ]
    refine tkI 4 40 rfl (by intro w hSw; have q12 := HL12.out _ hSw; go_simp <;> with_reducible rfl) hHeld ?_; simp only [pqZ]
    refine tkI 5 41 rfl (by intro w hSw; have q12 := HL12.out _ hSw; go_simp <;> with_reducible rfl) hHeld ?_; simp only [pqZ]
    refine tkI 6 42 rfl (by intro w hSw; have q12 := HL12.out _ hSw; go_simp <;> with_reducible rfl) hHeld ?_; simp only [pqZ]
    refine tkI 7 43 rfl (by intro w hSw; have q12 := HL12.out _ hSw; go_simp <;> with_reducible rfl) hHeld ?_; simp only [pqZ]
    refine tkI 8 44 rfl (by intro w hSw; have q12 := HL12.out _ hSw; go_simp <;> with_reducible rfl) hHeld ?_; simp only [pqZ]
    refine rdZ 1 37 rfl (by kernel_rfl) (fun K hK => ?_)
    have hHd := hHeld
    have q12 := HL12.out _ hHd
    have hKeep := hHeld
    skip
    go_simp
    refine hK.out _ _ (by (try dsimp only); exact hKeep) (fun hHeld => ?_); clear hK K hKeep; try simp only [pqZ]
    refine rdZ 9 45 rfl (by kernel_rfl) (fun K hK => ?_)
    refine step_app rfl (.tmp 37) (.tmp 44) rfl EF8 (base := v2.heap.size) rfl rfl (own_nil _ _ _) (m := d) (news := by8 (seg l 13 d)) (by rw [by8_length, HSL2.out]; omega) hsd (by8_one _) (by unfold maxLen; omega) (by omega) (Nat.le_refl _) ?_
    intro A3 c3 w3 own3 hg3 hb3
    simp only [Nat.zero_add, List.nil_append] at own3 ⊢
    have hb3 : Below v2.heap.size v2 w3 := ⟨hb3.os, hb3.tape, hb3.output, hb3.size, hb3.block⟩
    have hKeep : Below v1.heap.size v1 w3 := hV2.trans (hb3.mono hV2.size)
    have z5b := (hb3.cell (p := ⟨v1.heap.size, 5, none⟩) hzl).trans z5
    have z0b := (hb3.cell (p := ⟨v1.heap.size, 0, none⟩) hzl).trans z0
    have z1b := (hb3.cell (p := ⟨v1.heap.size, 1, none⟩) hzl).trans z1
    have z2b := (hb3.cell (p := ⟨v1.heap.size, 2, none⟩) hzl).trans z2
    have z3b := (hb3.cell (p := ⟨v1.heap.size, 3, none⟩) hzl).trans z3
    have z4b := (hb3.cell (p := ⟨v1.heap.size, 4, none⟩) hzl).trans z4
    have hzzb : ∀ i, w3.frozen? ⟨v1.heap.size, i, none⟩ = false := fun i => (hb3.frozen (p := ⟨v1.heap.size, i, none⟩) hzl).trans (hzz i)
    have hzlb : v1.heap.size < w3.heap.size := Nat.lt_of_lt_of_le hzl hb3.size
    have hKp := hKeep
    refine hK.out _ _ (by (try dsimp only); exact hKeep) (fun hHeld => ?_); clear hK K hKeep; try simp only [pqZ]
    refine tkI 10 46 rfl (by intro w hSw; have q12 := HL12.out _ hSw; go_simp <;> with_reducible rfl) hHeld ?_; simp only [pqZ]
    refine wpAnyH_ready (rs := [11]) (by kernel_rfl) (by simp) ?_
    refine AllReadyH.cons (o := ⟨none, _, _, _, _, _⟩) rfl (fun K hK => ?_) AllReadyH.nil
    have hHd := hHeld
    have q12 := HL12.out _ hHd
    have hKeep := Below.setCell hKp (p := ⟨v1.heap.size, 5, none⟩) (Nat.le_refl _) (.slice A3 d c3)
    skip
    go_simp
    refine hK.out _ _ (by (try dsimp only); exact hKeep) (fun hHeld => ?_); clear hK K hKeep; try simp only [pqZ]
    refine wpAnyH_done (by kernel_rfl) ?_ _
    have hBw3 : Below w.heap.size w w3 := HBW.out.trans (hKp.mono HSZ.out)
    have own4 := own_far1 own3 (p := ⟨v1.heap.size, 5, none⟩) (fun e => by have := own_ge own3 _ e; simp at this; omega) (.slice A3 d c3)
    have own4 := own_base own4 (show w.heap.size + 1 ≤ v2.heap.size by have := HSZ1.out; have := hV2.size; omega)
    have hB4 := HB0.out.trans ((Below.setCell hKp (p := ⟨v1.heap.size, 5, none⟩) (Nat.le_refl _) (.slice A3 d c3)).mono HSZ1.out)
    have hwl := HSZ.out
    have hvl : v1.heap.size < (w3.setCell ⟨v1.heap.size, 5, none⟩ (.slice A3 d c3)).heap.size := by simpa using hzlb
    have u : ∀ i, (w3.setCell ⟨v1.heap.size, 5, none⟩ (.slice A3 d c3)).cell? ⟨v1.heap.size, i, none⟩ = if i = 5 then some (.slice A3 d c3) else w3.cell? ⟨v1.heap.size, i, none⟩ := by
      intro i
      by_cases hi : i = 5
      · subst hi; rw [if_pos rfl]; exact World.cell?_setCell_same w3 _ _ z5b
      · rw [if_neg hi]; exact World.cell?_setCell_other w3 _ _ _ (by intro e; injection e with _ e2; exact hi e2.symm)
    have u0 := (u 0).trans ((if_neg (by decide)).trans z0b)
    have u1 := (u 1).trans ((if_neg (by decide)).trans z1b)
    have u2 := (u 2).trans ((if_neg (by decide)).trans z2b)
    have u3 := (u 3).trans ((if_neg (by decide)).trans z3b)
    have u4 := (u 4).trans ((if_neg (by decide)).trans z4b)
    have u5 := (u 5).trans (if_pos rfl)
    have hsl4 := Sl.of_own own4
    generalize hW4 : w3.setCell ⟨v1.heap.size, 5, none⟩ (.slice A3 d c3) = w4 at *
    clear u z0b z1b z2b z3b z4b z5b z0 z1 z2 z3 z4 z5 hzzb hzz hzlb hzl own3 hKp hg3 hb3 hHeld hV2 hsd
    go_wp2_with fail
    have henc := HENC.out A3 c3 w4 hsl4
    refine henc.mono ?_
    rintro e w5 ⟨⟨A5, c5, rfl, own5⟩, hb5⟩
    have hB5 := hB4.trans (hb5.mono (Nat.le_trans (Nat.le_of_lt_succ (Nat.lt_succ_of_lt (Nat.lt_of_le_of_lt HSZ1.out hvl))) (Nat.le_refl _)))
    have hvl5 : v1.heap.size < w5.heap.size := Nat.lt_of_lt_of_le hvl hb5.size
    have t0 := (hb5.cell (p := ⟨v1.heap.size, 0, none⟩) hvl).trans u0
    have t1 := (hb5.cell (p := ⟨v1.heap.size, 1, none⟩) hvl).trans u1
    have t2 := (hb5.cell (p := ⟨v1.heap.size, 2, none⟩) hvl).trans u2
    have t3 := (hb5.cell (p := ⟨v1.heap.size, 3, none⟩) hvl).trans u3
    have t4 := (hb5.cell (p := ⟨v1.heap.size, 4, none⟩) hvl).trans u4
    have t5 := (hb5.cell (p := ⟨v1.heap.size, 5, none⟩) hvl).trans u5
    have own6 := own_below own4 hb5
    obtain ⟨y0, y1, y2, y3, y4, y5⟩ := HBX.out _ hB5
    obtain ⟨hfz, hglt⟩ := HFZ.out _ hB5
    have hBw5 : Below w.heap.size w w5 := HBW0.out _ hB5
    clear henc hb5 u0 u1 u2 u3 u4 u5 own4 hsl4
    rw [HENF.out] at own5 ⊢
    simp only at own5 ⊢
    go_wp2_with fail
    refine bodyPost_ret (v := .tuple #[.agg #[.int .i64 0, .int .i64 0, .int .i64 0, .int .i64 0, .int .i64 0, .slice none 0 0], .int .i64 3]) ?_ rfl ⟨DRes.no _ _, ?_⟩
    · simp [results, Try.results63, go_sem, cell_set, y0, y1, y2, y3, y4, y5]
    · exact Below.setCell (Below.setCell (Below.setCell (Below.setCell (Below.setCell (Below.setCell hBw5 (Nat.le_refl _) _) (Nat.le_refl _) _) (Nat.le_refl _) _) (Nat.le_refl _) _) (Nat.le_refl _) _) (Nat.le_refl _) _
theorem rdec7_loop (b o c : Nat) (l : List Nat) (w : World) (h96 : l.length = 96) (hc : 96 ≤ c) (hcm : c ≤ maxLen) (hs : Sl w (some ⟨b, o, none⟩) (by8 l)) (ho : Oct l) (hd : l.getD 12 0 ≤ 80) (hok : (cand l).ok = true) :
    Calls Try.prog 63 #[.slice (some ⟨b, o, none⟩) 96 c] w fun e w' => DRes w.heap.size w' e (decF l) ∧ Below w.heap.size w w' := by
  obtain ⟨d, hd0⟩ : ∃ d, l.getD 12 0 = d := ⟨_, rfl⟩
  have hcell : ∀ j, (hj : j < 96) → w.cell? ⟨b, o + j, none⟩ = some (.int .u8 (l.getD j 0 : Nat)) := by
    intro j hj
    obtain ⟨_, _, e, h⟩ := hs.byte (j := j) (by omega)
    injection e with e; injection e with e1 e2; subst e1; subst e2
    rw [h, List.getD_eq_getElem?_getD, List.getElem?_eq_getElem (by omega)]
    rfl
  have hcd := hcell 12 (by omega)
  have hc10 := hcell 10 (by omega)
  have hc11 := hcell 11 (by omega)
  have hbt : ∀ j, j < 96 → l.getD j 0 < 256 := by
    intro j hj
    rw [List.getD_eq_getElem?_getD, List.getElem?_eq_getElem (by omega)]
    exact ho.at_ (by omega)
  have hb10 := hbt 10 (by omega)
  have hb11 := hbt 11 (by omega)
  rw [hd0] at hd hcd
  have hblt : b < w.heap.size := World.block_lt_of_cell? _ _ hcd
  obtain ⟨n0, hn0⟩ : ∃ n : Int, ((bnum (seg l 0 3) : Nat) : Int) = n := ⟨_, rfl⟩
  obtain ⟨n1, hn1⟩ : ∃ n : Int, ((bnum (seg l 3 3) : Nat) : Int) = n := ⟨_, rfl⟩
  obtain ⟨n2, hn2⟩ : ∃ n : Int, ((bnum (seg l 6 4) : Nat) : Int) = n := ⟨_, rfl⟩
  obtain ⟨n3, hn3⟩ : ∃ n : Int, ((l.getD 10 0 : Nat) : Int) = n := ⟨_, rfl⟩
  obtain ⟨n4, hn4⟩ : ∃ n : Int, ((l.getD 11 0 : Nat) : Int) = n := ⟨_, rfl⟩
  have hr3 : 0 ≤ n3 ∧ n3 < 256 := by omega
  have hr4 : 0 ≤ n4 ∧ n4 < 256 := by omega
  rw [hn3] at hc10
  rw [hn4] at hc11
  obtain ⟨hr30, hr31⟩ := hr3
  obtain ⟨hr40, hr41⟩ := hr4
  have HVAL : Hid (∀ A c, (cand l).val A c = .agg #[.int .i64 n0, .int .i64 n1, .int .i64 n2, .int .i64 n3, .int .i64 n4, .slice A d c]) := Lib.hid fun A c => by
    unfold Fr.val cand
    simp only
    rw [hd0, seg_len (by omega), hn0, hn1, hn2, hn3, hn4]
  have HLN : Hid ((cand l).data = seg l 13 d ∧ (cand l).data.length = d) := Lib.hid (by unfold cand; simp only; rw [hd0, seg_len (by omega)]; exact ⟨rfl, rfl⟩)
  have HENC : Hid (∀ (A : Option Addr) (c : Nat) (V : World), Sl V A (by8 (seg l 13 d)) → Calls Try.prog 64 #[.agg #[.int .i64 n0, .int .i64 n1, .int .i64 n2, .int .i64 n3, .int .i64 n4, .slice A d c]] V fun e w' => ERes V.heap.size w' e (encF (cand l)) ∧ Below V.heap.size V w') := Lib.hid fun A c V hV => by
    rw [← HVAL.out A c]
    exact renc7_any (cand l) A c V (by rw [HLN.out.2]; omega) (by rw [HLN.out.1]; exact hV) (by rw [HLN.out.1]; exact seg_oct ho _ _)
  have HSL2 : Hid ((seg l 13 d).length = d) := Lib.hid (seg_len (by omega))
  have HBX := Lib.hid (fun V (hV : Below (w.heap.size + 1) (w.alloc (.cells #[.int .i64 0, .int .i64 0, .int .i64 0, .int .i64 0, .int .i64 0, .slice none 0 0] 111)) V) => box6 (V := V) (by rw [World.size_alloc]; exact hV))
  have HFZ : Hid (∀ V, Below (w.heap.size + 1) (w.alloc (.cells #[.int .i64 0, .int .i64 0, .int .i64 0, .int .i64 0, .int .i64 0, .slice none 0 0] 111)) V → (∀ i, V.frozen? ⟨w.heap.size, i, none⟩ = false) ∧ w.heap.size < V.heap.size) := Lib.hid fun V hV => ⟨fun i => by rw [hV.frozen (p := ⟨w.heap.size, i, none⟩) (Nat.lt_succ_self w.heap.size)]; exact frozen_new w _ _ i, by have := hV.size; rw [World.size_alloc] at this; omega⟩
  have HB0 : Hid (Below (w.heap.size + 1) (w.alloc (.cells #[.int .i64 0, .int .i64 0, .int .i64 0, .int .i64 0, .int .i64 0, .slice none 0 0] 111)) (w.alloc (.cells #[.int .i64 0, .int .i64 0, .int .i64 0, .int .i64 0, .int .i64 0, .slice none 0 0] 111))) := Lib.hid (Below.refl _ _)
  have HSZ1 : Hid (w.heap.size + 1 ≤ ((w.alloc (.cells #[.int .i64 0, .int .i64 0, .int .i64 0, .int .i64 0, .int .i64 0, .slice none 0 0] 111))).heap.size) := Lib.hid (by rw [World.size_alloc]; exact Nat.le_refl _)
  have HBW : Hid (Below w.heap.size w (w.alloc (.cells #[.int .i64 0, .int .i64 0, .int .i64 0, .int .i64 0, .int .i64 0, .slice none 0 0] 111))) := Lib.hid (since_alloc (Below.refl _ _) _)
  have HBW0 : Hid (∀ V, Below (w.heap.size + 1) (w.alloc (.cells #[.int .i64 0, .int .i64 0, .int .i64 0, .int .i64 0, .int .i64 0, .slice none 0 0] 111)) V → Below w.heap.size w V) := Lib.hid fun V hV => (since_alloc (Below.refl _ _) _).trans (hV.mono (Nat.le_succ _))
  have HSL0 := Lib.hid hs
  have HSLW := Lib.hid (hs.alloc (.cells #[.int .i64 0, .int .i64 0, .int .i64 0, .int .i64 0, .int .i64 0, .slice none 0 0] 111))
  have HC12 : Hid (((w.alloc (.cells #[.int .i64 0, .int .i64 0, .int .i64 0, .int .i64 0, .int .i64 0, .slice none 0 0] 111))).cell? ⟨b, o + 12, none⟩ = some (.int .u8 (d : Int))) := Lib.hid ((World.cell?_alloc_lt w _ ⟨b, o + 12, none⟩ hblt).trans hcd)
  have HC10 : Hid (((w.alloc (.cells #[.int .i64 0, .int .i64 0, .int .i64 0, .int .i64 0, .int .i64 0, .slice none 0 0] 111))).cell? ⟨b, o + 10, none⟩ = some (.int .u8 n3)) := Lib.hid ((World.cell?_alloc_lt w _ ⟨b, o + 10, none⟩ hblt).trans hc10)
  have HC11 : Hid (((w.alloc (.cells #[.int .i64 0, .int .i64 0, .int .i64 0, .int .i64 0, .int .i64 0, .slice none 0 0] 111))).cell? ⟨b, o + 11, none⟩ = some (.int .u8 n4)) := Lib.hid ((World.cell?_alloc_lt w _ ⟨b, o + 11, none⟩ hblt).trans hc11)
  have HBL : Hid (b < ((w.alloc (.cells #[.int .i64 0, .int .i64 0, .int .i64 0, .int .i64 0, .int .i64 0, .slice none 0 0] 111))).heap.size) := Lib.hid (by rw [World.size_alloc]; omega)
  have HBLT : Hid (b < w.heap.size) := Lib.hid hblt
  have H96 := Lib.hid h96
  have HD0 := Lib.hid hd0
  have HCELL := Lib.hid hcell
  have hd2 : ¬ (80 : Int) < (d : Int) := by omega
  have hd3 : d < 256 := by omega
  have HENF : Hid (encF (cand l) = (sealed (cand l).body, 0)) := Lib.hid (if_pos hok)
  have hRl : (sealed (cand l).body).length = 96 := by rw [sealed_len, Fr.body_len (by have := ((Fr.ok_iff _).1 hok).2.2.2.2.2.2.2.2.2.2; exact this)]
  have HYES : Hid (sealed (cand l).body = l → decF l = (cand l, 0)) := Lib.hid (decF_yes h96 hok)
  have HNO : Hid (sealed (cand l).body ≠ l → decF l = (Fr0, 3)) := Lib.hid decF_no
  obtain ⟨R, hR⟩ : ∃ R, sealed (cand l).body = R := ⟨_, rfl⟩
  rw [hR] at HENF hRl HYES HNO
  have HRL := Lib.hid hRl
  clear hR hRl
  clear hd0 hs h96 hcell hbt hb10 hb11 hc10 hc11
  go_enter Try.func63, Try.ntmps63
  go_wp2_with fail
  generalize hW1 : w.alloc (.cells #[.int .i64 0, .int .i64 0, .int .i64 0, .int .i64 0, .int .i64 0, .slice none 0 0] 111) = v1 at *
  have HSL : Hid (Sl v1 (some ⟨b, o, none⟩) (by8 l)) := HSLW
  have HL : Hid (∀ V, Below v1.heap.size v1 V → V.cell? ⟨b, o + 10, none⟩ = some (.int .u8 n3) ∧ V.cell? ⟨b, o + 11, none⟩ = some (.int .u8 n4)) := Lib.hid fun V hV => ⟨(hV.cell (p := ⟨b, o + 10, none⟩) HBL.out).trans HC10.out, (hV.cell (p := ⟨b, o + 11, none⟩) HBL.out).trans HC11.out⟩
  have HSZ : Hid (w.heap.size ≤ v1.heap.size) := Lib.hid (by have := HSZ1.out; omega)
  have h96 := H96.out
  have HG2 : Hid (∀ V, Below v1.heap.size v1 V → Calls Try.prog 85 #[.slice (some ⟨b, o, none⟩) 3 (c)] V fun e w' => e = .returned (.int .i64 n0) ∧ V = w') := Lib.hid fun V hV => by
    have h := rvalue7_any (some ⟨b, o + 0, none⟩) (c) (seg l 0 3) V (by rw [seg_len (by omega)]; omega) (seg_oct ho _ _) ((HSL.out.below hV).seg _ _)
    rw [seg_len (by omega), hn0] at h
    exact h
  have HG5 : Hid (∀ V, Below v1.heap.size v1 V → Calls Try.prog 85 #[.slice (some ⟨b, o + 3, none⟩) 3 (c - 3)] V fun e w' => e = .returned (.int .i64 n1) ∧ V = w') := Lib.hid fun V hV => by
    have h := rvalue7_any (some ⟨b, o + 3, none⟩) (c - 3) (seg l 3 3) V (by rw [seg_len (by omega)]; omega) (seg_oct ho _ _) ((HSL.out.below hV).seg _ _)
    rw [seg_len (by omega), hn1] at h
    exact h
  have HG8 : Hid (∀ V, Below v1.heap.size v1 V → Calls Try.prog 85 #[.slice (some ⟨b, o + 6, none⟩) 4 (c - 6)] V fun e w' => e = .returned (.int .i64 n2) ∧ V = w') := Lib.hid fun V hV => by
    have h := rvalue7_any (some ⟨b, o + 6, none⟩) (c - 6) (seg l 6 4) V (by rw [seg_len (by omega)]; omega) (seg_oct ho _ _) ((HSL.out.below hV).seg _ _)
    rw [seg_len (by omega), hn2] at h
    exact h
  clear h96 hW1
  have hc3 : (3 : Int) ≤ (c : Int) ∧ (6 : Int) ≤ (c : Int) ∧ (10 : Int) ≤ (c : Int) ∧ (13 : Int) + (d : Int) ≤ (c : Int) ∧ (13 : Int) ≤ 13 + (d : Int) := by omega
  have hc4 : ¬ c = 3 ∧ ¬ c = 6 ∧ ¬ c = 10 ∧ ¬ c = 13 := by omega
  obtain ⟨hc30, hc31, hc32, hc33, hc34⟩ := hc3
  obtain ⟨hc40, hc41, hc42, hc43⟩ := hc4
  have hw1 : IntKind.i64.wrap n3 = n3 := IntWalk.i64_in _ (by omega)
  have hw2 : IntKind.i64.wrap n4 = n4 := IntWalk.i64_in _ (by omega)
  have hw3 : IntKind.i64.wrap (d : Int) = (d : Int) := IntWalk.i64_in _ (by omega)
  have hw4 : IntKind.i64.wrap (13 + (d : Int)) = 13 + (d : Int) := IntWalk.i64_in _ (by omega)
  have hw5 : max (13 + (d : Int)) 0 = 13 + (d : Int) := by omega
  have hw6 : (13 + (d : Int)).toNat = 13 + d := by omega
  have hw7 : 13 + d - 13 = d := by omega
  have hw8 : (0 : Int) ≤ 13 + (d : Int) := by omega
  refine wp_region_held_drew (S := (fun V' => Below v1.heap.size v1 V')) (by kernel_rfl) (by exact (Below.refl _ _).drew) (fun hHeld => ?_)
  refine tkI 0 18 rfl (by intro w hSw; have q10 := (HL.out _ hSw).1; have q11 := (HL.out _ hSw).2; go_simp <;> with_reducible rfl) hHeld ?_; simp only [pqZ]
  refine tkI 1 19 rfl (by intro w hSw; have q10 := (HL.out _ hSw).1; have q11 := (HL.out _ hSw).2; go_simp <;> with_reducible rfl) hHeld ?_; simp only [pqZ]
  refine tkI 3 21 rfl (by intro w hSw; have q10 := (HL.out _ hSw).1; have q11 := (HL.out _ hSw).2; go_simp <;> with_reducible rfl) hHeld ?_; simp only [pqZ]
  refine tkI 4 22 rfl (by intro w hSw; have q10 := (HL.out _ hSw).1; have q11 := (HL.out _ hSw).2; go_simp <;> with_reducible rfl) hHeld ?_; simp only [pqZ]
  refine tkI 6 24 rfl (by intro w hSw; have q10 := (HL.out _ hSw).1; have q11 := (HL.out _ hSw).2; go_simp <;> with_reducible rfl) hHeld ?_; simp only [pqZ]
  refine tkI 7 25 rfl (by intro w hSw; have q10 := (HL.out _ hSw).1; have q11 := (HL.out _ hSw).2; go_simp <;> with_reducible rfl) hHeld ?_; simp only [pqZ]
  refine tkI 9 27 rfl (by intro w hSw; have q10 := (HL.out _ hSw).1; have q11 := (HL.out _ hSw).2; go_simp <;> with_reducible rfl) hHeld ?_; simp only [pqZ]
  refine tkI 10 28 rfl (by intro w hSw; have q10 := (HL.out _ hSw).1; have q11 := (HL.out _ hSw).2; go_simp <;> with_reducible rfl) hHeld ?_; simp only [pqZ]
  refine tkI 11 29 rfl (by intro w hSw; have q10 := (HL.out _ hSw).1; have q11 := (HL.out _ hSw).2; go_simp <;> with_reducible rfl) hHeld ?_; simp only [pqZ]
  refine tkI 12 30 rfl (by intro w hSw; have q10 := (HL.out _ hSw).1; have q11 := (HL.out _ hSw).2; go_simp <;> with_reducible rfl) hHeld ?_; simp only [pqZ]
  refine tkI 13 31 rfl (by intro w hSw; have q10 := (HL.out _ hSw).1; have q11 := (HL.out _ hSw).2; go_simp <;> with_reducible rfl) hHeld ?_; simp only [pqZ]
  refine tkI 14 32 rfl (by intro w hSw; have q10 := (HL.out _ hSw).1; have q11 := (HL.out _ hSw).2; go_simp <;> with_reducible rfl) hHeld ?_; simp only [pqZ]
  refine tkI 15 33 rfl (by intro w hSw; have q10 := (HL.out _ hSw).1; have q11 := (HL.out _ hSw).2; go_simp <;> with_reducible rfl) hHeld ?_; simp only [pqZ]
  refine tkI 16 34 rfl (by intro w hSw; have q10 := (HL.out _ hSw).1; have q11 := (HL.out _ hSw).2; go_simp <;> with_reducible rfl) hHeld ?_; simp only [pqZ]
  refine wpAnyH_ready (rs := [2, 18]) (by kernel_rfl) (by simp) ?_
  refine AllReadyH.cons (o := ⟨some 20, _, _, _, _, _⟩) rfl (fun K hK => ?_) (AllReadyH.cons (o := ⟨some 4, _, _, _, _, _⟩) rfl (fun K hK => ?_) AllReadyH.nil)
  · go_simp
    refine (HG2.out _ hHeld).mono ?_
    rintro e x2 ⟨rfl, rfl⟩
    have hKeep := hHeld
    go_wp2_with fail
    refine hK.out _ _ (by (try dsimp only); exact hKeep) (fun hHeld => ?_); clear hK K hKeep; try simp only [pqZ]
    refine wpAnyH_ready (rs := [5, 18]) (by kernel_rfl) (by simp) ?_
    refine AllReadyH.cons (o := ⟨some 23, _, _, _, _, _⟩) rfl (fun K hK => ?_) (AllReadyH.cons (o := ⟨some 4, _, _, _, _, _⟩) rfl (fun K hK => ?_) AllReadyH.nil)
    · go_simp
      refine (HG5.out _ hHeld).mono ?_
      rintro e x5 ⟨rfl, rfl⟩
      have hKeep := hHeld
      go_wp2_with fail
      refine hK.out _ _ (by (try dsimp only); exact hKeep) (fun hHeld => ?_); clear hK K hKeep; try simp only [pqZ]
      refine wpAnyH_ready (rs := [8, 18]) (by kernel_rfl) (by simp) ?_
      refine AllReadyH.cons (o := ⟨some 26, _, _, _, _, _⟩) rfl (fun K hK => ?_) (AllReadyH.cons (o := ⟨some 4, _, _, _, _, _⟩) rfl (fun K hK => ?_) AllReadyH.nil)
      · go_simp
        refine (HG8.out _ hHeld).mono ?_
        rintro e x8 ⟨rfl, rfl⟩
        have hKeep := hHeld
        go_wp2_with fail
        refine hK.out _ _ (by (try dsimp only); exact hKeep) (fun hHeld => ?_); clear hK K hKeep; try simp only [pqZ]
        refine tkI 17 35 rfl (by intro w hSw; have q10 := (HL.out _ hSw).1; have q11 := (HL.out _ hSw).2; go_simp <;> with_reducible rfl) hHeld ?_; simp only [pqZ]
        refine rdZ 18 4 rfl (by kernel_rfl) (fun K hK => ?_)
        have hHd := hHeld
        have q10 := (HL.out _ hHd).1; have q11 := (HL.out _ hHd).2
        have hHp := hHeld
        have hKeep := since_alloc hHeld (.cells #[.int .i64 0, .int .i64 0, .int .i64 0, .int .i64 0, .int .i64 0, .slice none 0 0] 111)
        go_simp
        refine hK.out _ _ (by (try dsimp only); exact hKeep) (fun hHeld => ?_); clear hK K hKeep; try simp only [pqZ]
        refine wpAnyH_ready (rs := [19]) (by kernel_rfl) (by simp) ?_
        refine AllReadyH.cons (o := ⟨none, _, _, _, _, _⟩) rfl (fun K hK => ?_) AllReadyH.nil
        have hHd := hHeld
        have q10 := (HL.out _ hHd).1; have q11 := (HL.out _ hHd).2
        have hKeep := since_alloc hHp (.cells #[.int .i64 n0, .int .i64 n1, .int .i64 n2, .int .i64 n3, .int .i64 n4, .slice none 0 0] 111)
        skip
        go_simp
        refine hK.out _ _ (by (try dsimp only); exact hKeep) (fun hHeld => ?_); clear hK K hKeep; try simp only [pqZ]
        refine wpAnyH_done (by kernel_rfl) ?_ _
        have hV2 : Below v1.heap.size v1 (v1.alloc (.cells #[.int .i64 n0, .int .i64 n1, .int .i64 n2, .int .i64 n3, .int .i64 n4, .slice none 0 0] 111)).drew := hHeld
        have hbF := box6 (w := v1) (V := (v1.alloc (.cells #[.int .i64 n0, .int .i64 n1, .int .i64 n2, .int .i64 n3, .int .i64 n4, .slice none 0 0] 111)).drew) (by exact (Below.refl _ (v1.alloc (.cells #[.int .i64 n0, .int .i64 n1, .int .i64 n2, .int .i64 n3, .int .i64 n4, .slice none 0 0] 111))).drew)
        obtain ⟨z0, z1, z2, z3, z4, z5⟩ := hbF
        have hzz : ∀ i, (v1.alloc (.cells #[.int .i64 n0, .int .i64 n1, .int .i64 n2, .int .i64 n3, .int .i64 n4, .slice none 0 0] 111)).drew.frozen? ⟨v1.heap.size, i, none⟩ = false := fun i => frozen_new v1 _ _ i
        have hzl : v1.heap.size < (v1.alloc (.cells #[.int .i64 n0, .int .i64 n1, .int .i64 n2, .int .i64 n3, .int .i64 n4, .slice none 0 0] 111)).drew.heap.size := by rw [World.size_drew, World.size_alloc]; omega
        clear hHp hHeld
        generalize hV2w : (v1.alloc (.cells #[.int .i64 n0, .int .i64 n1, .int .i64 n2, .int .i64 n3, .int .i64 n4, .slice none 0 0] 111)).drew = v2 at *
        clear hV2w
        have HL12 : Hid (∀ V, Below v1.heap.size v1 V → V.cell? ⟨b, o + 12, none⟩ = some (.int .u8 (d : Int))) := Lib.hid fun V hV => (hV.cell (p := ⟨b, o + 12, none⟩) HBL.out).trans HC12.out
        have hsd := (HSL.out.below hV2).seg 13 d
        go_wp2_with fail
        refine wp_region_held_drew (S := (fun V' => Below v1.heap.size v1 V')) (by kernel_rfl) (by exact hV2.drew) (fun hHeld => ?_)
        refine tkI 0 36 rfl (by intro w hSw; have q12 := HL12.out _ hSw; go_simp <;> with_reducible rfl) hHeld ?_; simp only [pqZ]
        refine tkI 2 38 rfl (by intro w hSw; have q12 := HL12.out _ hSw; go_simp <;> with_reducible rfl) hHeld ?_; simp only [pqZ]
        refine tkI 3 39 rfl (by intro w hSw; have q12 := HL12.out _ hSw; go_simp <;> with_reducible rfl) hHeld ?_; simp only [pqZ]
        refine tkI 4 40 rfl (by intro w hSw; have q12 := HL12.out _ hSw; go_simp <;> with_reducible rfl) hHeld ?_; simp only [pqZ]
        refine tkI 5 41 rfl (by intro w hSw; have q12 := HL12.out _ hSw; go_simp <;> with_reducible rfl) hHeld ?_; simp only [pqZ]
        refine tkI 6 42 rfl (by intro w hSw; have q12 := HL12.out _ hSw; go_simp <;> with_reducible rfl) hHeld ?_; simp only [pqZ]
        refine tkI 7 43 rfl (by intro w hSw; have q12 := HL12.out _ hSw; go_simp <;> with_reducible rfl) hHeld ?_; simp only [pqZ]
        refine tkI 8 44 rfl (by intro w hSw; have q12 := HL12.out _ hSw; go_simp <;> with_reducible rfl) hHeld ?_; simp only [pqZ]
        refine rdZ 1 37 rfl (by kernel_rfl) (fun K hK => ?_)
        have hHd := hHeld
        have q12 := HL12.out _ hHd
        have hKeep := hHeld
        skip
        go_simp
        refine hK.out _ _ (by (try dsimp only); exact hKeep) (fun hHeld => ?_); clear hK K hKeep; try simp only [pqZ]
        refine rdZ 9 45 rfl (by kernel_rfl) (fun K hK => ?_)
        refine step_app rfl (.tmp 37) (.tmp 44) rfl EF8 (base := v2.heap.size) rfl rfl (own_nil _ _ _) (m := d) (news := by8 (seg l 13 d)) (by rw [by8_length, HSL2.out]; omega) hsd (by8_one _) (by unfold maxLen; omega) (by omega) (Nat.le_refl _) ?_
        intro A3 c3 w3 own3 hg3 hb3
        simp only [Nat.zero_add, List.nil_append] at own3 ⊢
        have hb3 : Below v2.heap.size v2 w3 := ⟨hb3.os, hb3.tape, hb3.output, hb3.size, hb3.block⟩
        have hKeep : Below v1.heap.size v1 w3 := hV2.trans (hb3.mono hV2.size)
        have z5b := (hb3.cell (p := ⟨v1.heap.size, 5, none⟩) hzl).trans z5
        have z0b := (hb3.cell (p := ⟨v1.heap.size, 0, none⟩) hzl).trans z0
        have z1b := (hb3.cell (p := ⟨v1.heap.size, 1, none⟩) hzl).trans z1
        have z2b := (hb3.cell (p := ⟨v1.heap.size, 2, none⟩) hzl).trans z2
        have z3b := (hb3.cell (p := ⟨v1.heap.size, 3, none⟩) hzl).trans z3
        have z4b := (hb3.cell (p := ⟨v1.heap.size, 4, none⟩) hzl).trans z4
        have hzzb : ∀ i, w3.frozen? ⟨v1.heap.size, i, none⟩ = false := fun i => (hb3.frozen (p := ⟨v1.heap.size, i, none⟩) hzl).trans (hzz i)
        have hzlb : v1.heap.size < w3.heap.size := Nat.lt_of_lt_of_le hzl hb3.size
        have hKp := hKeep
        refine hK.out _ _ (by (try dsimp only); exact hKeep) (fun hHeld => ?_); clear hK K hKeep; try simp only [pqZ]
        refine tkI 10 46 rfl (by intro w hSw; have q12 := HL12.out _ hSw; go_simp <;> with_reducible rfl) hHeld ?_; simp only [pqZ]
        refine wpAnyH_ready (rs := [11]) (by kernel_rfl) (by simp) ?_
        refine AllReadyH.cons (o := ⟨none, _, _, _, _, _⟩) rfl (fun K hK => ?_) AllReadyH.nil
        have hHd := hHeld
        have q12 := HL12.out _ hHd
        have hKeep := Below.setCell hKp (p := ⟨v1.heap.size, 5, none⟩) (Nat.le_refl _) (.slice A3 d c3)
        skip
        go_simp
        refine hK.out _ _ (by (try dsimp only); exact hKeep) (fun hHeld => ?_); clear hK K hKeep; try simp only [pqZ]
        refine wpAnyH_done (by kernel_rfl) ?_ _
        have hBw3 : Below w.heap.size w w3 := HBW.out.trans (hKp.mono HSZ.out)
        have own4 := own_far1 own3 (p := ⟨v1.heap.size, 5, none⟩) (fun e => by have := own_ge own3 _ e; simp at this; omega) (.slice A3 d c3)
        have own4 := own_base own4 (show w.heap.size + 1 ≤ v2.heap.size by have := HSZ1.out; have := hV2.size; omega)
        have hB4 := HB0.out.trans ((Below.setCell hKp (p := ⟨v1.heap.size, 5, none⟩) (Nat.le_refl _) (.slice A3 d c3)).mono HSZ1.out)
        have hwl := HSZ.out
        have hvl : v1.heap.size < (w3.setCell ⟨v1.heap.size, 5, none⟩ (.slice A3 d c3)).heap.size := by simpa using hzlb
        have u : ∀ i, (w3.setCell ⟨v1.heap.size, 5, none⟩ (.slice A3 d c3)).cell? ⟨v1.heap.size, i, none⟩ = if i = 5 then some (.slice A3 d c3) else w3.cell? ⟨v1.heap.size, i, none⟩ := by
          intro i
          by_cases hi : i = 5
          · subst hi; rw [if_pos rfl]; exact World.cell?_setCell_same w3 _ _ z5b
          · rw [if_neg hi]; exact World.cell?_setCell_other w3 _ _ _ (by intro e; injection e with _ e2; exact hi e2.symm)
        have u0 := (u 0).trans ((if_neg (by decide)).trans z0b)
        have u1 := (u 1).trans ((if_neg (by decide)).trans z1b)
        have u2 := (u 2).trans ((if_neg (by decide)).trans z2b)
        have u3 := (u 3).trans ((if_neg (by decide)).trans z3b)
        have u4 := (u 4).trans ((if_neg (by decide)).trans z4b)
        have u5 := (u 5).trans (if_pos rfl)
        have hsl4 := Sl.of_own own4
        generalize hW4 : w3.setCell ⟨v1.heap.size, 5, none⟩ (.slice A3 d c3) = w4 at *
        clear u z0b z1b z2b z3b z4b z5b z0 z1 z2 z3 z4 z5 hzzb hzz hzlb hzl own3 hKp hg3 hb3 hHeld hV2 hsd
        go_wp2_with fail
        have henc := HENC.out A3 c3 w4 hsl4
        refine henc.mono ?_
        rintro e w5 ⟨⟨A5, c5, rfl, own5⟩, hb5⟩
        have hB5 := hB4.trans (hb5.mono (Nat.le_trans (Nat.le_of_lt_succ (Nat.lt_succ_of_lt (Nat.lt_of_le_of_lt HSZ1.out hvl))) (Nat.le_refl _)))
        have hvl5 : v1.heap.size < w5.heap.size := Nat.lt_of_lt_of_le hvl hb5.size
        have t0 := (hb5.cell (p := ⟨v1.heap.size, 0, none⟩) hvl).trans u0
        have t1 := (hb5.cell (p := ⟨v1.heap.size, 1, none⟩) hvl).trans u1
        have t2 := (hb5.cell (p := ⟨v1.heap.size, 2, none⟩) hvl).trans u2
        have t3 := (hb5.cell (p := ⟨v1.heap.size, 3, none⟩) hvl).trans u3
        have t4 := (hb5.cell (p := ⟨v1.heap.size, 4, none⟩) hvl).trans u4
        have t5 := (hb5.cell (p := ⟨v1.heap.size, 5, none⟩) hvl).trans u5
        have own6 := own_below own4 hb5
        obtain ⟨y0, y1, y2, y3, y4, y5⟩ := HBX.out _ hB5
        obtain ⟨hfz, hglt⟩ := HFZ.out _ hB5
        have hBw5 : Below w.heap.size w w5 := HBW0.out _ hB5
        clear henc hb5 u0 u1 u2 u3 u4 u5 own4 hsl4
        rw [HENF.out] at own5 ⊢
        simp only at own5 ⊢
        rw [HRL.out] at own5 ⊢
        go_wp2_with fail
        have hsR := Sl.of_own own5
        have hs5 : Sl w5 (some ⟨b, o, none⟩) (by8 l) := HSL0.out.below hBw5
        clear own5
        have hlb5 : b < w5.heap.size := Nat.lt_of_lt_of_le HBLT.out hBw5.size
        go_loopw [7] (fun iv wr => ∃ k : Nat, k ≤ 96 ∧ iv = .int .i64 k ∧ Agree R l k ∧ Below w5.heap.size w5 wr) (fun iv _ => 96 - (intOf iv).toNat)
        case atStart => exact ⟨0, Nat.zero_le _, rfl, (fun i hi => absurd hi (by omega)), Below.refl _ _⟩
        case round =>
          obtain ⟨k, hk, rfl, hag, hBr⟩ := hrel
          have HA := Lib.hid hag
          clear hag
          have h96 := H96.out
          have hRl := HRL.out
          have hsRr := hsR.below hBr
          have hs5r := hs5.below hBr
          have s0 := (hBr.cell (p := ⟨v1.heap.size, 0, none⟩) hvl5).trans t0
          have s1 := (hBr.cell (p := ⟨v1.heap.size, 1, none⟩) hvl5).trans t1
          have s2 := (hBr.cell (p := ⟨v1.heap.size, 2, none⟩) hvl5).trans t2
          have s3 := (hBr.cell (p := ⟨v1.heap.size, 3, none⟩) hvl5).trans t3
          have s4 := (hBr.cell (p := ⟨v1.heap.size, 4, none⟩) hvl5).trans t4
          have s5 := (hBr.cell (p := ⟨v1.heap.size, 5, none⟩) hvl5).trans t5
          have hvlr : v1.heap.size < wr.heap.size := Nat.lt_of_lt_of_le hvl5 hBr.size
          have r0 := (hBr.cell (p := ⟨w.heap.size, 0, none⟩) hglt).trans y0
          have r1 := (hBr.cell (p := ⟨w.heap.size, 1, none⟩) hglt).trans y1
          have r2 := (hBr.cell (p := ⟨w.heap.size, 2, none⟩) hglt).trans y2
          have r3 := (hBr.cell (p := ⟨w.heap.size, 3, none⟩) hglt).trans y3
          have r4 := (hBr.cell (p := ⟨w.heap.size, 4, none⟩) hglt).trans y4
          have r5 := (hBr.cell (p := ⟨w.heap.size, 5, none⟩) hglt).trans y5
          have hgltr : w.heap.size < wr.heap.size := Nat.lt_of_lt_of_le hglt hBr.size
          have hfzr : ∀ i, wr.frozen? ⟨w.heap.size, i, none⟩ = false := fun i => (hBr.frozen (p := ⟨w.heap.size, i, none⟩) hglt).trans (hfz i)
          have hBwr : Below w.heap.size w wr := hBw5.trans (hBr.mono hBw5.size)
          have own6r := own_below own6 hBr
          clear t0 t1 t2 t3 t4 t5 y0 y1 y2 y3 y4 y5 hfz hglt hvl5 hB5
          by_cases hlt : k < 96
          · have hk1 : k < R.length := by omega
            have hk2 : k < l.length := by omega
            obtain ⟨b1, o1, hA1, hz1⟩ := hsRr.byte hk1
            subst hA1
            have hz2 : wr.cell? ⟨b, o + k, none⟩ = some (.int .u8 (l[k] : Nat)) := by
              obtain ⟨_, _, e, h⟩ := hs5r.byte hk2
              injection e with e; injection e with e1 e2; subst e1; subst e2
              exact h
            have hlb : b < wr.heap.size := Nat.lt_of_lt_of_le hlb5 hBr.size
            obtain ⟨x1, hx1⟩ : ∃ x : Int, ((R[k] : Nat) : Int) = x := ⟨_, rfl⟩
            obtain ⟨x2, hx2⟩ : ∃ x : Int, ((l[k] : Nat) : Int) = x := ⟨_, rfl⟩
            rw [hx1] at hz1
            rw [hx2] at hz2
            have HE : Hid (x1 = x2 ↔ R[k] = l[k]) := Lib.hid (by omega)
            have HRk : Hid (R[k]? = some R[k] ∧ l[k]? = some l[k]) := Lib.hid ⟨List.getElem?_eq_getElem hk1, List.getElem?_eq_getElem hk2⟩
            clear hx1 hx2 h96 hRl
            by_cases he : x1 = x2
            · have he' : (x1 != x2) = false := by rw [he]; simp
              have HQ := Lib.hid he
              clear he
              go_wp2_with fail
              go_quiet (fail)
              go_wp2_with fail
              go_roundw
              case rel =>
                refine ⟨k + 1, by omega, by go_num, fun i hi => ?_, below_drewN hBr _⟩
                by_cases hik : i = k
                · subst hik
                  rw [HRk.out.1, HRk.out.2, HE.out.1 HQ.out]
                · exact HA.out i (by omega)
              case measure => simp [intOf]; omega
            · have he' : (x1 != x2) = true := by rw [bne_iff_ne]; exact he
              have hne : R ≠ l := by
                rintro rfl
                exact he (HE.out.2 rfl)
              have hdf := HNO.out hne
              have HDF := Lib.hid hdf
              clear hdf hne he
              go_wp2_with fail
              go_quiet (fail)
              go_wp2_with fail
              rw [HDF.out]
              have hBq := below_drewN hBwr
              refine bodyPost_ret (v := .tuple #[.agg #[.int .i64 0, .int .i64 0, .int .i64 0, .int .i64 0, .int .i64 0, .slice none 0 0], .int .i64 3]) ?_ rfl ⟨DRes.no _ _, ?_⟩
              · simp [results, Try.results63, go_sem, cell_set, r0, r1, r2, r3, r4, r5]
              · exact Below.setCell (Below.setCell (Below.setCell (Below.setCell (Below.setCell (Below.setCell (hBq _) (Nat.le_refl _) _) (Nat.le_refl _) _) (Nat.le_refl _) _) (Nat.le_refl _) _) (Nat.le_refl _) _) (Nat.le_refl _) _
          · obtain rfl : k = 96 := by omega
            have hdf := HYES.out (agree_eq (by rw [hRl]; exact HA.out) (by rw [hRl, h96]))
            have HDF := Lib.hid hdf
            clear hdf h96 hRl
            go_wp2_with fail
            rw [HDF.out]
            have hge := own_ge own6r
            have hw7 : ∀ k, (Value.slice A3 d c3).ownBlock = some k → w.heap.size < k := fun k hk => by have := hge k hk; have := HSZ1.out; omega
            have own7 := own_far1 (own_far1 (own_far1 (own_far1 (own_far1 (own_far1 own6r (p := ⟨w.heap.size, 0, none⟩) (fun e => by have := hw7 _ e; simp at this) (.int .i64 n0)) (p := ⟨w.heap.size, 1, none⟩) (fun e => by have := hw7 _ e; simp at this) (.int .i64 n1)) (p := ⟨w.heap.size, 2, none⟩) (fun e => by have := hw7 _ e; simp at this) (.int .i64 n2)) (p := ⟨w.heap.size, 3, none⟩) (fun e => by have := hw7 _ e; simp at this) (.int .i64 n3)) (p := ⟨w.heap.size, 4, none⟩) (fun e => by have := hw7 _ e; simp at this) (.int .i64 n4)) (p := ⟨w.heap.size, 5, none⟩) (fun e => by have := hw7 _ e; simp at this) (.slice A3 d c3)
            have hval := HVAL.out A3 c3
            refine bodyPost_ret (v := .tuple #[.agg #[.int .i64 n0, .int .i64 n1, .int .i64 n2, .int .i64 n3, .int .i64 n4, .slice A3 d c3], .int .i64 0]) ?_ rfl ⟨⟨A3, c3, by rw [hval], by rw [HLN.out.2, HLN.out.1]; exact own_base own7 (Nat.le_succ _)⟩, ?_⟩
            · simp [results, Try.results63, go_sem, cell_set, r0, r1, r2, r3, r4, r5]
            · exact Below.setCell (Below.setCell (Below.setCell (Below.setCell (Below.setCell (Below.setCell hBwr (Nat.le_refl _) _) (Nat.le_refl _) _) (Nat.le_refl _) _) (Nat.le_refl _) _) (Nat.le_refl _) _) (Nat.le_refl _) _
      · have hHd := hHeld
        have q10 := (HL.out _ hHd).1; have q11 := (HL.out _ hHd).2
        have hHp := hHeld
        have hKeep := since_alloc hHeld (.cells #[.int .i64 0, .int .i64 0, .int .i64 0, .int .i64 0, .int .i64 0, .slice none 0 0] 111)
        go_simp
        refine hK.out _ _ (by (try dsimp only); exact hKeep) (fun hHeld => ?_); clear hK K hKeep; try simp only [pqZ]
        refine rdZ 8 26 rfl (by kernel_rfl) (fun K hK => ?_)
        go_simp
        refine (HG8.out _ hHeld).mono ?_
        rintro e x8 ⟨rfl, rfl⟩
        have hKeep := hHeld
        go_wp2_with fail
        refine hK.out _ _ (by (try dsimp only); exact hKeep) (fun hHeld => ?_); clear hK K hKeep; try simp only [pqZ]
        refine tkI 17 35 rfl (by intro w hSw; have q10 := (HL.out _ hSw).1; have q11 := (HL.out _ hSw).2; go_simp <;> with_reducible rfl) hHeld ?_; simp only [pqZ]
        refine wpAnyH_ready (rs := [19]) (by kernel_rfl) (by simp) ?_
        refine AllReadyH.cons (o := ⟨none, _, _, _, _, _⟩) rfl (fun K hK => ?_) AllReadyH.nil
        have hHd := hHeld
        have q10 := (HL.out _ hHd).1; have q11 := (HL.out _ hHd).2
        have hKeep := since_alloc hHp (.cells #[.int .i64 n0, .int .i64 n1, .int .i64 n2, .int .i64 n3, .int .i64 n4, .slice none 0 0] 111)
        skip
        go_simp
        refine hK.out _ _ (by (try dsimp only); exact hKeep) (fun hHeld => ?_); clear hK K hKeep; try simp only [pqZ]
        refine wpAnyH_done (by kernel_rfl) ?_ _
        have hV2 : Below v1.heap.size v1 (v1.alloc (.cells #[.int .i64 n0, .int .i64 n1, .int .i64 n2, .int .i64 n3, .int .i64 n4, .slice none 0 0] 111)).drew := hHeld
        have hbF := box6 (w := v1) (V := (v1.alloc (.cells #[.int .i64 n0, .int .i64 n1, .int .i64 n2, .int .i64 n3, .int .i64 n4, .slice none 0 0] 111)).drew) (by exact (Below.refl _ (v1.alloc (.cells #[.int .i64 n0, .int .i64 n1, .int .i64 n2, .int .i64 n3, .int .i64 n4, .slice none 0 0] 111))).drew)
        obtain ⟨z0, z1, z2, z3, z4, z5⟩ := hbF
        have hzz : ∀ i, (v1.alloc (.cells #[.int .i64 n0, .int .i64 n1, .int .i64 n2, .int .i64 n3, .int .i64 n4, .slice none 0 0] 111)).drew.frozen? ⟨v1.heap.size, i, none⟩ = false := fun i => frozen_new v1 _ _ i
        have hzl : v1.heap.size < (v1.alloc (.cells #[.int .i64 n0, .int .i64 n1, .int .i64 n2, .int .i64 n3, .int .i64 n4, .slice none 0 0] 111)).drew.heap.size := by rw [World.size_drew, World.size_alloc]; omega
        clear hHp hHeld
        generalize hV2w : (v1.alloc (.cells #[.int .i64 n0, .int .i64 n1, .int .i64 n2, .int .i64 n3, .int .i64 n4, .slice none 0 0] 111)).drew = v2 at *
        clear hV2w
        have HL12 : Hid (∀ V, Below v1.heap.size v1 V → V.cell? ⟨b, o + 12, none⟩ = some (.int .u8 (d : Int))) := Lib.hid fun V hV => (hV.cell (p := ⟨b, o + 12, none⟩) HBL.out).trans HC12.out
        have hsd := (HSL.out.below hV2).seg 13 d
        go_wp2_with fail
        refine wp_region_held_drew (S := (fun V' => Below v1.heap.size v1 V')) (by kernel_rfl) (by exact hV2.drew) (fun hHeld => ?_)
        refine tkI 0 36 rfl (by intro w hSw; have q12 := HL12.out _ hSw; go_simp <;> with_reducible rfl) hHeld ?_; simp only [pqZ]
        refine tkI 2 38 rfl (by intro w hSw; have q12 := HL12.out _ hSw; go_simp <;> with_reducible rfl) hHeld ?_; simp only [pqZ]
        refine tkI 3 39 rfl (by intro w hSw; have q12 := HL12.out _ hSw; go_simp <;> with_reducible rfl) hHeld ?_; simp only [pqZ]
        refine tkI 4 40 rfl (by intro w hSw; have q12 := HL12.out _ hSw; go_simp <;> with_reducible rfl) hHeld ?_; simp only [pqZ]
        refine tkI 5 41 rfl (by intro w hSw; have q12 := HL12.out _ hSw; go_simp <;> with_reducible rfl) hHeld ?_; simp only [pqZ]
        refine tkI 6 42 rfl (by intro w hSw; have q12 := HL12.out _ hSw; go_simp <;> with_reducible rfl) hHeld ?_; simp only [pqZ]
        refine tkI 7 43 rfl (by intro w hSw; have q12 := HL12.out _ hSw; go_simp <;> with_reducible rfl) hHeld ?_; simp only [pqZ]
        refine tkI 8 44 rfl (by intro w hSw; have q12 := HL12.out _ hSw; go_simp <;> with_reducible rfl) hHeld ?_; simp only [pqZ]
        refine rdZ 1 37 rfl (by kernel_rfl) (fun K hK => ?_)
        have hHd := hHeld
        have q12 := HL12.out _ hHd
        have hKeep := hHeld
        skip
        go_simp
        refine hK.out _ _ (by (try dsimp only); exact hKeep) (fun hHeld => ?_); clear hK K hKeep; try simp only [pqZ]
        refine rdZ 9 45 rfl (by kernel_rfl) (fun K hK => ?_)
        refine step_app rfl (.tmp 37) (.tmp 44) rfl EF8 (base := v2.heap.size) rfl rfl (own_nil _ _ _) (m := d) (news := by8 (seg l 13 d)) (by rw [by8_length, HSL2.out]; omega) hsd (by8_one _) (by unfold maxLen; omega) (by omega) (Nat.le_refl _) ?_
        intro A3 c3 w3 own3 hg3 hb3
        simp only [Nat.zero_add, List.nil_append] at own3 ⊢
        have hb3 : Below v2.heap.size v2 w3 := ⟨hb3.os, hb3.tape, hb3.output, hb3.size, hb3.block⟩
        have hKeep : Below v1.heap.size v1 w3 := hV2.trans (hb3.mono hV2.size)
        have z5b := (hb3.cell (p := ⟨v1.heap.size, 5, none⟩) hzl).trans z5
        have z0b := (hb3.cell (p := ⟨v1.heap.size, 0, none⟩) hzl).trans z0
        have z1b := (hb3.cell (p := ⟨v1.heap.size, 1, none⟩) hzl).trans z1
        have z2b := (hb3.cell (p := ⟨v1.heap.size, 2, none⟩) hzl).trans z2
        have z3b := (hb3.cell (p := ⟨v1.heap.size, 3, none⟩) hzl).trans z3
        have z4b := (hb3.cell (p := ⟨v1.heap.size, 4, none⟩) hzl).trans z4
        have hzzb : ∀ i, w3.frozen? ⟨v1.heap.size, i, none⟩ = false := fun i => (hb3.frozen (p := ⟨v1.heap.size, i, none⟩) hzl).trans (hzz i)
        have hzlb : v1.heap.size < w3.heap.size := Nat.lt_of_lt_of_le hzl hb3.size
        have hKp := hKeep
        refine hK.out _ _ (by (try dsimp only); exact hKeep) (fun hHeld => ?_); clear hK K hKeep; try simp only [pqZ]
        refine tkI 10 46 rfl (by intro w hSw; have q12 := HL12.out _ hSw; go_simp <;> with_reducible rfl) hHeld ?_; simp only [pqZ]
        refine wpAnyH_ready (rs := [11]) (by kernel_rfl) (by simp) ?_
        refine AllReadyH.cons (o := ⟨none, _, _, _, _, _⟩) rfl (fun K hK => ?_) AllReadyH.nil
        have hHd := hHeld
        have q12 := HL12.out _ hHd
        have hKeep := Below.setCell hKp (p := ⟨v1.heap.size, 5, none⟩) (Nat.le_refl _) (.slice A3 d c3)
        skip
        go_simp
        refine hK.out _ _ (by (try dsimp only); exact hKeep) (fun hHeld => ?_); clear hK K hKeep; try simp only [pqZ]
        refine wpAnyH_done (by kernel_rfl) ?_ _
        have hBw3 : Below w.heap.size w w3 := HBW.out.trans (hKp.mono HSZ.out)
        have own4 := own_far1 own3 (p := ⟨v1.heap.size, 5, none⟩) (fun e => by have := own_ge own3 _ e; simp at this; omega) (.slice A3 d c3)
        have own4 := own_base own4 (show w.heap.size + 1 ≤ v2.heap.size by have := HSZ1.out; have := hV2.size; omega)
        have hB4 := HB0.out.trans ((Below.setCell hKp (p := ⟨v1.heap.size, 5, none⟩) (Nat.le_refl _) (.slice A3 d c3)).mono HSZ1.out)
        have hwl := HSZ.out
        have hvl : v1.heap.size < (w3.setCell ⟨v1.heap.size, 5, none⟩ (.slice A3 d c3)).heap.size := by simpa using hzlb
        have u : ∀ i, (w3.setCell ⟨v1.heap.size, 5, none⟩ (.slice A3 d c3)).cell? ⟨v1.heap.size, i, none⟩ = if i = 5 then some (.slice A3 d c3) else w3.cell? ⟨v1.heap.size, i, none⟩ := by
          intro i
          by_cases hi : i = 5
          · subst hi; rw [if_pos rfl]; exact World.cell?_setCell_same w3 _ _ z5b
          · rw [if_neg hi]; exact World.cell?_setCell_other w3 _ _ _ (by intro e; injection e with _ e2; exact hi e2.symm)
        have u0 := (u 0).trans ((if_neg (by decide)).trans z0b)
        have u1 := (u 1).trans ((if_neg (by decide)).trans z1b)
        have u2 := (u 2).trans ((if_neg (by decide)).trans z2b)
        have u3 := (u 3).trans ((if_neg (by decide)).trans z3b)
        have u4 := (u 4).trans ((if_neg (by decide)).trans z4b)
        have u5 := (u 5).trans (if_pos rfl)
        have hsl4 := Sl.of_own own4
        generalize hW4 : w3.setCell ⟨v1.heap.size, 5, none⟩ (.slice A3 d c3) = w4 at *
        clear u z0b z1b z2b z3b z4b z5b z0 z1 z2 z3 z4 z5 hzzb hzz hzlb hzl own3 hKp hg3 hb3 hHeld hV2 hsd
        go_wp2_with fail
        have henc := HENC.out A3 c3 w4 hsl4
        refine henc.mono ?_
        rintro e w5 ⟨⟨A5, c5, rfl, own5⟩, hb5⟩
        have hB5 := hB4.trans (hb5.mono (Nat.le_trans (Nat.le_of_lt_succ (Nat.lt_succ_of_lt (Nat.lt_of_le_of_lt HSZ1.out hvl))) (Nat.le_refl _)))
        have hvl5 : v1.heap.size < w5.heap.size := Nat.lt_of_lt_of_le hvl hb5.size
        have t0 := (hb5.cell (p := ⟨v1.heap.size, 0, none⟩) hvl).trans u0
        have t1 := (hb5.cell (p := ⟨v1.heap.size, 1, none⟩) hvl).trans u1
        have t2 := (hb5.cell (p := ⟨v1.heap.size, 2, none⟩) hvl).trans u2
        have t3 := (hb5.cell (p := ⟨v1.heap.size, 3, none⟩) hvl).trans u3
        have t4 := (hb5.cell (p := ⟨v1.heap.size, 4, none⟩) hvl).trans u4
        have t5 := (hb5.cell (p := ⟨v1.heap.size, 5, none⟩) hvl).trans u5
        have own6 := own_below own4 hb5
        obtain ⟨y0, y1, y2, y3, y4, y5⟩ := HBX.out _ hB5
        obtain ⟨hfz, hglt⟩ := HFZ.out _ hB5
        have hBw5 : Below w.heap.size w w5 := HBW0.out _ hB5
        clear henc hb5 u0 u1 u2 u3 u4 u5 own4 hsl4
        rw [HENF.out] at own5 ⊢
        simp only at own5 ⊢
        rw [HRL.out] at own5 ⊢
        go_wp2_with fail
        have hsR := Sl.of_own own5
        have hs5 : Sl w5 (some ⟨b, o, none⟩) (by8 l) := HSL0.out.below hBw5
        clear own5
        have hlb5 : b < w5.heap.size := Nat.lt_of_lt_of_le HBLT.out hBw5.size
        go_loopw [7] (fun iv wr => ∃ k : Nat, k ≤ 96 ∧ iv = .int .i64 k ∧ Agree R l k ∧ Below w5.heap.size w5 wr) (fun iv _ => 96 - (intOf iv).toNat)
        case atStart => exact ⟨0, Nat.zero_le _, rfl, (fun i hi => absurd hi (by omega)), Below.refl _ _⟩
        case round =>
          obtain ⟨k, hk, rfl, hag, hBr⟩ := hrel
          have HA := Lib.hid hag
          clear hag
          have h96 := H96.out
          have hRl := HRL.out
          have hsRr := hsR.below hBr
          have hs5r := hs5.below hBr
          have s0 := (hBr.cell (p := ⟨v1.heap.size, 0, none⟩) hvl5).trans t0
          have s1 := (hBr.cell (p := ⟨v1.heap.size, 1, none⟩) hvl5).trans t1
          have s2 := (hBr.cell (p := ⟨v1.heap.size, 2, none⟩) hvl5).trans t2
          have s3 := (hBr.cell (p := ⟨v1.heap.size, 3, none⟩) hvl5).trans t3
          have s4 := (hBr.cell (p := ⟨v1.heap.size, 4, none⟩) hvl5).trans t4
          have s5 := (hBr.cell (p := ⟨v1.heap.size, 5, none⟩) hvl5).trans t5
          have hvlr : v1.heap.size < wr.heap.size := Nat.lt_of_lt_of_le hvl5 hBr.size
          have r0 := (hBr.cell (p := ⟨w.heap.size, 0, none⟩) hglt).trans y0
          have r1 := (hBr.cell (p := ⟨w.heap.size, 1, none⟩) hglt).trans y1
          have r2 := (hBr.cell (p := ⟨w.heap.size, 2, none⟩) hglt).trans y2
          have r3 := (hBr.cell (p := ⟨w.heap.size, 3, none⟩) hglt).trans y3
          have r4 := (hBr.cell (p := ⟨w.heap.size, 4, none⟩) hglt).trans y4
          have r5 := (hBr.cell (p := ⟨w.heap.size, 5, none⟩) hglt).trans y5
          have hgltr : w.heap.size < wr.heap.size := Nat.lt_of_lt_of_le hglt hBr.size
          have hfzr : ∀ i, wr.frozen? ⟨w.heap.size, i, none⟩ = false := fun i => (hBr.frozen (p := ⟨w.heap.size, i, none⟩) hglt).trans (hfz i)
          have hBwr : Below w.heap.size w wr := hBw5.trans (hBr.mono hBw5.size)
          have own6r := own_below own6 hBr
          clear t0 t1 t2 t3 t4 t5 y0 y1 y2 y3 y4 y5 hfz hglt hvl5 hB5
          by_cases hlt : k < 96
          · have hk1 : k < R.length := by omega
            have hk2 : k < l.length := by omega
            obtain ⟨b1, o1, hA1, hz1⟩ := hsRr.byte hk1
            subst hA1
            have hz2 : wr.cell? ⟨b, o + k, none⟩ = some (.int .u8 (l[k] : Nat)) := by
              obtain ⟨_, _, e, h⟩ := hs5r.byte hk2
              injection e with e; injection e with e1 e2; subst e1; subst e2
              exact h
            have hlb : b < wr.heap.size := Nat.lt_of_lt_of_le hlb5 hBr.size
            obtain ⟨x1, hx1⟩ : ∃ x : Int, ((R[k] : Nat) : Int) = x := ⟨_, rfl⟩
            obtain ⟨x2, hx2⟩ : ∃ x : Int, ((l[k] : Nat) : Int) = x := ⟨_, rfl⟩
            rw [hx1] at hz1
            rw [hx2] at hz2
            have HE : Hid (x1 = x2 ↔ R[k] = l[k]) := Lib.hid (by omega)
            have HRk : Hid (R[k]? = some R[k] ∧ l[k]? = some l[k]) := Lib.hid ⟨List.getElem?_eq_getElem hk1, List.getElem?_eq_getElem hk2⟩
            clear hx1 hx2 h96 hRl
            by_cases he : x1 = x2
            · have he' : (x1 != x2) = false := by rw [he]; simp
              have HQ := Lib.hid he
              clear he
              go_wp2_with fail
              go_quiet (fail)
              go_wp2_with fail
              go_roundw
              case rel =>
                refine ⟨k + 1, by omega, by go_num, fun i hi => ?_, below_drewN hBr _⟩
                by_cases hik : i = k
                · subst hik
                  rw [HRk.out.1, HRk.out.2, HE.out.1 HQ.out]
                · exact HA.out i (by omega)
              case measure => simp [intOf]; omega
            · have he' : (x1 != x2) = true := by rw [bne_iff_ne]; exact he
              have hne : R ≠ l := by
                rintro rfl
                exact he (HE.out.2 rfl)
              have hdf := HNO.out hne
              have HDF := Lib.hid hdf
              clear hdf hne he
              go_wp2_with fail
              go_quiet (fail)
              go_wp2_with fail
              rw [HDF.out]
              have hBq := below_drewN hBwr
              refine bodyPost_ret (v := .tuple #[.agg #[.int .i64 0, .int .i64 0, .int .i64 0, .int .i64 0, .int .i64 0, .slice none 0 0], .int .i64 3]) ?_ rfl ⟨DRes.no _ _, ?_⟩
              · simp [results, Try.results63, go_sem, cell_set, r0, r1, r2, r3, r4, r5]
              · exact Below.setCell (Below.setCell (Below.setCell (Below.setCell (Below.setCell (Below.setCell (hBq _) (Nat.le_refl _) _) (Nat.le_refl _) _) (Nat.le_refl _) _) (Nat.le_refl _) _) (Nat.le_refl _) _) (Nat.le_refl _) _
          · obtain rfl : k = 96 := by omega
            have hdf := HYES.out (agree_eq (by rw [hRl]; exact HA.out) (by rw [hRl, h96]))
            have HDF := Lib.hid hdf
            clear hdf h96 hRl
            go_wp2_with fail
            rw [HDF.out]
            have hge := own_ge own6r
            have hw7 : ∀ k, (Value.slice A3 d c3).ownBlock = some k → w.heap.size < k := fun k hk => by have := hge k hk; have := HSZ1.out; omega
            have own7 := own_far1 (own_far1 (own_far1 (own_far1 (own_far1 (own_far1 own6r (p := ⟨w.heap.size, 0, none⟩) (fun e => by have := hw7 _ e; simp at this) (.int .i64 n0)) (p := ⟨w.heap.size, 1, none⟩) (fun e => by have := hw7 _ e; simp at this) (.int .i64 n1)) (p := ⟨w.heap.size, 2, none⟩) (fun e => by have := hw7 _ e; simp at this) (.int .i64 n2)) (p := ⟨w.heap.size, 3, none⟩) (fun e => by have := hw7 _ e; simp at this) (.int .i64 n3)) (p := ⟨w.heap.size, 4, none⟩) (fun e => by have := hw7 _ e; simp at this) (.int .i64 n4)) (p := ⟨w.heap.size, 5, none⟩) (fun e => by have := hw7 _ e; simp at this) (.slice A3 d c3)
            have hval := HVAL.out A3 c3
            refine bodyPost_ret (v := .tuple #[.agg #[.int .i64 n0, .int .i64 n1, .int .i64 n2, .int .i64 n3, .int .i64 n4, .slice A3 d c3], .int .i64 0]) ?_ rfl ⟨⟨A3, c3, by rw [hval], by rw [HLN.out.2, HLN.out.1]; exact own_base own7 (Nat.le_succ _)⟩, ?_⟩
            · simp [results, Try.results63, go_sem, cell_set, r0, r1, r2, r3, r4, r5]
            · exact Below.setCell (Below.setCell (Below.setCell (Below.setCell (Below.setCell (Below.setCell hBwr (Nat.le_refl _) _) (Nat.le_refl _) _) (Nat.le_refl _) _) (Nat.le_refl _) _) (Nat.le_refl _) _) (Nat.le_refl _) _
    · have hHd := hHeld
      have q10 := (HL.out _ hHd).1; have q11 := (HL.out _ hHd).2
      have hHp := hHeld
      have hKeep := since_alloc hHeld (.cells #[.int .i64 0, .int .i64 0, .int .i64 0, .int .i64 0, .int .i64 0, .slice none 0 0] 111)
      go_simp
      refine hK.out _ _ (by (try dsimp only); exact hKeep) (fun hHeld => ?_); clear hK K hKeep; try simp only [pqZ]
      refine rdZ 5 23 rfl (by kernel_rfl) (fun K hK => ?_)
      go_simp
      refine (HG5.out _ hHeld).mono ?_
      rintro e x5 ⟨rfl, rfl⟩
      have hKeep := hHeld
      go_wp2_with fail
      refine hK.out _ _ (by (try dsimp only); exact hKeep) (fun hHeld => ?_); clear hK K hKeep; try simp only [pqZ]
      refine rdZ 8 26 rfl (by kernel_rfl) (fun K hK => ?_)
      go_simp
      refine (HG8.out _ hHeld).mono ?_
      rintro e x8 ⟨rfl, rfl⟩
      have hKeep := hHeld
      go_wp2_with fail
      refine hK.out _ _ (by (try dsimp only); exact hKeep) (fun hHeld => ?_); clear hK K hKeep; try simp only [pqZ]
      refine tkI 17 35 rfl (by intro w hSw; have q10 := (HL.out _ hSw).1; have q11 := (HL.out _ hSw).2; go_simp <;> with_reducible rfl) hHeld ?_; simp only [pqZ]
      refine wpAnyH_ready (rs := [19]) (by kernel_rfl) (by simp) ?_
      refine AllReadyH.cons (o := ⟨none, _, _, _, _, _⟩) rfl (fun K hK => ?_) AllReadyH.nil
      have hHd := hHeld
      have q10 := (HL.out _ hHd).1; have q11 := (HL.out _ hHd).2
      have hKeep := since_alloc hHp (.cells #[.int .i64 n0, .int .i64 n1, .int .i64 n2, .int .i64 n3, .int .i64 n4, .slice none 0 0] 111)
      skip
      go_simp
      refine hK.out _ _ (by (try dsimp only); exact hKeep) (fun hHeld => ?_); clear hK K hKeep; try simp only [pqZ]
      refine wpAnyH_done (by kernel_rfl) ?_ _
      have hV2 : Below v1.heap.size v1 (v1.alloc (.cells #[.int .i64 n0, .int .i64 n1, .int .i64 n2, .int .i64 n3, .int .i64 n4, .slice none 0 0] 111)).drew := hHeld
      have hbF := box6 (w := v1) (V := (v1.alloc (.cells #[.int .i64 n0, .int .i64 n1, .int .i64 n2, .int .i64 n3, .int .i64 n4, .slice none 0 0] 111)).drew) (by exact (Below.refl _ (v1.alloc (.cells #[.int .i64 n0, .int .i64 n1, .int .i64 n2, .int .i64 n3, .int .i64 n4, .slice none 0 0] 111))).drew)
      obtain ⟨z0, z1, z2, z3, z4, z5⟩ := hbF
      have hzz : ∀ i, (v1.alloc (.cells #[.int .i64 n0, .int .i64 n1, .int .i64 n2, .int .i64 n3, .int .i64 n4, .slice none 0 0] 111)).drew.frozen? ⟨v1.heap.size, i, none⟩ = false := fun i => frozen_new v1 _ _ i
      have hzl : v1.heap.size < (v1.alloc (.cells #[.int .i64 n0, .int .i64 n1, .int .i64 n2, .int .i64 n3, .int .i64 n4, .slice none 0 0] 111)).drew.heap.size := by rw [World.size_drew, World.size_alloc]; omega
      clear hHp hHeld
      generalize hV2w : (v1.alloc (.cells #[.int .i64 n0, .int .i64 n1, .int .i64 n2, .int .i64 n3, .int .i64 n4, .slice none 0 0] 111)).drew = v2 at *
      clear hV2w
      have HL12 : Hid (∀ V, Below v1.heap.size v1 V → V.cell? ⟨b, o + 12, none⟩ = some (.int .u8 (d : Int))) := Lib.hid fun V hV => (hV.cell (p := ⟨b, o + 12, none⟩) HBL.out).trans HC12.out
      have hsd := (HSL.out.below hV2).seg 13 d
      go_wp2_with fail
      refine wp_region_held_drew (S := (fun V' => Below v1.heap.size v1 V')) (by kernel_rfl) (by exact hV2.drew) (fun hHeld => ?_)
      refine tkI 0 36 rfl (by intro w hSw; have q12 := HL12.out _ hSw; go_simp <;> with_reducible rfl) hHeld ?_; simp only [pqZ]
      refine tkI 2 38 rfl (by intro w hSw; have q12 := HL12.out _ hSw; go_simp <;> with_reducible rfl) hHeld ?_; simp only [pqZ]
      refine tkI 3 39 rfl (by intro w hSw; have q12 := HL12.out _ hSw; go_simp <;> with_reducible rfl) hHeld ?_; simp only [pqZ]
      refine tkI 4 40 rfl (by intro w hSw; have q12 := HL12.out _ hSw; go_simp <;> with_reducible rfl) hHeld ?_; simp only [pqZ]
      refine tkI 5 41 rfl (by intro w hSw; have q12 := HL12.out _ hSw; go_simp <;> with_reducible rfl) hHeld ?_; simp only [pqZ]
      refine tkI 6 42 rfl (by intro w hSw; have q12 := HL12.out _ hSw; go_simp <;> with_reducible rfl) hHeld ?_; simp only [pqZ]
      refine tkI 7 43 rfl (by intro w hSw; have q12 := HL12.out _ hSw; go_simp <;> with_reducible rfl) hHeld ?_; simp only [pqZ]
      refine tkI 8 44 rfl (by intro w hSw; have q12 := HL12.out _ hSw; go_simp <;> with_reducible rfl) hHeld ?_; simp only [pqZ]
      refine rdZ 1 37 rfl (by kernel_rfl) (fun K hK => ?_)
      have hHd := hHeld
      have q12 := HL12.out _ hHd
      have hKeep := hHeld
      skip
      go_simp
      refine hK.out _ _ (by (try dsimp only); exact hKeep) (fun hHeld => ?_); clear hK K hKeep; try simp only [pqZ]
      refine rdZ 9 45 rfl (by kernel_rfl) (fun K hK => ?_)
      refine step_app rfl (.tmp 37) (.tmp 44) rfl EF8 (base := v2.heap.size) rfl rfl (own_nil _ _ _) (m := d) (news := by8 (seg l 13 d)) (by rw [by8_length, HSL2.out]; omega) hsd (by8_one _) (by unfold maxLen; omega) (by omega) (Nat.le_refl _) ?_
      intro A3 c3 w3 own3 hg3 hb3
      simp only [Nat.zero_add, List.nil_append] at own3 ⊢
      have hb3 : Below v2.heap.size v2 w3 := ⟨hb3.os, hb3.tape, hb3.output, hb3.size, hb3.block⟩
      have hKeep : Below v1.heap.size v1 w3 := hV2.trans (hb3.mono hV2.size)
      have z5b := (hb3.cell (p := ⟨v1.heap.size, 5, none⟩) hzl).trans z5
      have z0b := (hb3.cell (p := ⟨v1.heap.size, 0, none⟩) hzl).trans z0
      have z1b := (hb3.cell (p := ⟨v1.heap.size, 1, none⟩) hzl).trans z1
      have z2b := (hb3.cell (p := ⟨v1.heap.size, 2, none⟩) hzl).trans z2
      have z3b := (hb3.cell (p := ⟨v1.heap.size, 3, none⟩) hzl).trans z3
      have z4b := (hb3.cell (p := ⟨v1.heap.size, 4, none⟩) hzl).trans z4
      have hzzb : ∀ i, w3.frozen? ⟨v1.heap.size, i, none⟩ = false := fun i => (hb3.frozen (p := ⟨v1.heap.size, i, none⟩) hzl).trans (hzz i)
      have hzlb : v1.heap.size < w3.heap.size := Nat.lt_of_lt_of_le hzl hb3.size
      have hKp := hKeep
      refine hK.out _ _ (by (try dsimp only); exact hKeep) (fun hHeld => ?_); clear hK K hKeep; try simp only [pqZ]
      refine tkI 10 46 rfl (by intro w hSw; have q12 := HL12.out _ hSw; go_simp <;> with_reducible rfl) hHeld ?_; simp only [pqZ]
      refine wpAnyH_ready (rs := [11]) (by kernel_rfl) (by simp) ?_
      refine AllReadyH.cons (o := ⟨none, _, _, _, _, _⟩) rfl (fun K hK => ?_) AllReadyH.nil
      have hHd := hHeld
      have q12 := HL12.out _ hHd
      have hKeep := Below.setCell hKp (p := ⟨v1.heap.size, 5, none⟩) (Nat.le_refl _) (.slice A3 d c3)
      skip
      go_simp
      refine hK.out _ _ (by (try dsimp only); exact hKeep) (fun hHeld => ?_); clear hK K hKeep; try simp only [pqZ]
      refine wpAnyH_done (by kernel_rfl) ?_ _
      have hBw3 : Below w.heap.size w w3 := HBW.out.trans (hKp.mono HSZ.out)
      have own4 := own_far1 own3 (p := ⟨v1.heap.size, 5, none⟩) (fun e => by have := own_ge own3 _ e; simp at this; omega) (.slice A3 d c3)
      have own4 := own_base own4 (show w.heap.size + 1 ≤ v2.heap.size by have := HSZ1.out; have := hV2.size; omega)
      have hB4 := HB0.out.trans ((Below.setCell hKp (p := ⟨v1.heap.size, 5, none⟩) (Nat.le_refl _) (.slice A3 d c3)).mono HSZ1.out)
      have hwl := HSZ.out
      have hvl : v1.heap.size < (w3.setCell ⟨v1.heap.size, 5, none⟩ (.slice A3 d c3)).heap.size := by simpa using hzlb
      have u : ∀ i, (w3.setCell ⟨v1.heap.size, 5, none⟩ (.slice A3 d c3)).cell? ⟨v1.heap.size, i, none⟩ = if i = 5 then some (.slice A3 d c3) else w3.cell? ⟨v1.heap.size, i, none⟩ := by
        intro i
        by_cases hi : i = 5
        · subst hi; rw [if_pos rfl]; exact World.cell?_setCell_same w3 _ _ z5b
        · rw [if_neg hi]; exact World.cell?_setCell_other w3 _ _ _ (by intro e; injection e with _ e2; exact hi e2.symm)
      have u0 := (u 0).trans ((if_neg (by decide)).trans z0b)
      have u1 := (u 1).trans ((if_neg (by decide)).trans z1b)
      have u2 := (u 2).trans ((if_neg (by decide)).trans z2b)
      have u3 := (u 3).trans ((if_neg (by decide)).trans z3b)
      have u4 := (u 4).trans ((if_neg (by decide)).trans z4b)
      have u5 := (u 5).trans (if_pos rfl)
      have hsl4 := Sl.of_own own4
      generalize hW4 : w3.setCell ⟨v1.heap.size, 5, none⟩ (.slice A3 d c3) = w4 at *
      clear u z0b z1b z2b z3b z4b z5b z0 z1 z2 z3 z4 z5 hzzb hzz hzlb hzl own3 hKp hg3 hb3 hHeld hV2 hsd
      go_wp2_with fail
      have henc := HENC.out A3 c3 w4 hsl4
      refine henc.mono ?_
      rintro e w5 ⟨⟨A5, c5, rfl, own5⟩, hb5⟩
      have hB5 := hB4.trans (hb5.mono (Nat.le_trans (Nat.le_of_lt_succ (Nat.lt_succ_of_lt (Nat.lt_of_le_of_lt HSZ1.out hvl))) (Nat.le_refl _)))
      have hvl5 : v1.heap.size < w5.heap.size := Nat.lt_of_lt_of_le hvl hb5.size
      have t0 := (hb5.cell (p := ⟨v1.heap.size, 0, none⟩) hvl).trans u0
      have t1 := (hb5.cell (p := ⟨v1.heap.size, 1, none⟩) hvl).trans u1
      have t2 := (hb5.cell (p := ⟨v1.heap.size, 2, none⟩) hvl).trans u2
      have t3 := (hb5.cell (p := ⟨v1.heap.size, 3, none⟩) hvl).trans u3
      have t4 := (hb5.cell (p := ⟨v1.heap.size, 4, none⟩) hvl).trans u4
      have t5 := (hb5.cell (p := ⟨v1.heap.size, 5, none⟩) hvl).trans u5
      have own6 := own_below own4 hb5
      obtain ⟨y0, y1, y2, y3, y4, y5⟩ := HBX.out _ hB5
      obtain ⟨hfz, hglt⟩ := HFZ.out _ hB5
      have hBw5 : Below w.heap.size w w5 := HBW0.out _ hB5
      clear henc hb5 u0 u1 u2 u3 u4 u5 own4 hsl4
      rw [HENF.out] at own5 ⊢
      simp only at own5 ⊢
      rw [HRL.out] at own5 ⊢
      go_wp2_with fail
      have hsR := Sl.of_own own5
      have hs5 : Sl w5 (some ⟨b, o, none⟩) (by8 l) := HSL0.out.below hBw5
      clear own5
      have hlb5 : b < w5.heap.size := Nat.lt_of_lt_of_le HBLT.out hBw5.size
      go_loopw [7] (fun iv wr => ∃ k : Nat, k ≤ 96 ∧ iv = .int .i64 k ∧ Agree R l k ∧ Below w5.heap.size w5 wr) (fun iv _ => 96 - (intOf iv).toNat)
      case atStart => exact ⟨0, Nat.zero_le _, rfl, (fun i hi => absurd hi (by omega)), Below.refl _ _⟩
      case round =>
        obtain ⟨k, hk, rfl, hag, hBr⟩ := hrel
        have HA := Lib.hid hag
        clear hag
        have h96 := H96.out
        have hRl := HRL.out
        have hsRr := hsR.below hBr
        have hs5r := hs5.below hBr
        have s0 := (hBr.cell (p := ⟨v1.heap.size, 0, none⟩) hvl5).trans t0
        have s1 := (hBr.cell (p := ⟨v1.heap.size, 1, none⟩) hvl5).trans t1
        have s2 := (hBr.cell (p := ⟨v1.heap.size, 2, none⟩) hvl5).trans t2
        have s3 := (hBr.cell (p := ⟨v1.heap.size, 3, none⟩) hvl5).trans t3
        have s4 := (hBr.cell (p := ⟨v1.heap.size, 4, none⟩) hvl5).trans t4
        have s5 := (hBr.cell (p := ⟨v1.heap.size, 5, none⟩) hvl5).trans t5
        have hvlr : v1.heap.size < wr.heap.size := Nat.lt_of_lt_of_le hvl5 hBr.size
        have r0 := (hBr.cell (p := ⟨w.heap.size, 0, none⟩) hglt).trans y0
        have r1 := (hBr.cell (p := ⟨w.heap.size, 1, none⟩) hglt).trans y1
        have r2 := (hBr.cell (p := ⟨w.heap.size, 2, none⟩) hglt).trans y2
        have r3 := (hBr.cell (p := ⟨w.heap.size, 3, none⟩) hglt).trans y3
        have r4 := (hBr.cell (p := ⟨w.heap.size, 4, none⟩) hglt).trans y4
        have r5 := (hBr.cell (p := ⟨w.heap.size, 5, none⟩) hglt).trans y5
        have hgltr : w.heap.size < wr.heap.size := Nat.lt_of_lt_of_le hglt hBr.size
        have hfzr : ∀ i, wr.frozen? ⟨w.heap.size, i, none⟩ = false := fun i => (hBr.frozen (p := ⟨w.heap.size, i, none⟩) hglt).trans (hfz i)
        have hBwr : Below w.heap.size w wr := hBw5.trans (hBr.mono hBw5.size)
        have own6r := own_below own6 hBr
        clear t0 t1 t2 t3 t4 t5 y0 y1 y2 y3 y4 y5 hfz hglt hvl5 hB5
        by_cases hlt : k < 96
        · have hk1 : k < R.length := by omega
          have hk2 : k < l.length := by omega
          obtain ⟨b1, o1, hA1, hz1⟩ := hsRr.byte hk1
          subst hA1
          have hz2 : wr.cell? ⟨b, o + k, none⟩ = some (.int .u8 (l[k] : Nat)) := by
            obtain ⟨_, _, e, h⟩ := hs5r.byte hk2
            injection e with e; injection e with e1 e2; subst e1; subst e2
            exact h
          have hlb : b < wr.heap.size := Nat.lt_of_lt_of_le hlb5 hBr.size
          obtain ⟨x1, hx1⟩ : ∃ x : Int, ((R[k] : Nat) : Int) = x := ⟨_, rfl⟩
          obtain ⟨x2, hx2⟩ : ∃ x : Int, ((l[k] : Nat) : Int) = x := ⟨_, rfl⟩
          rw [hx1] at hz1
          rw [hx2] at hz2
          have HE : Hid (x1 = x2 ↔ R[k] = l[k]) := Lib.hid (by omega)
          have HRk : Hid (R[k]? = some R[k] ∧ l[k]? = some l[k]) := Lib.hid ⟨List.getElem?_eq_getElem hk1, List.getElem?_eq_getElem hk2⟩
          clear hx1 hx2 h96 hRl
          by_cases he : x1 = x2
          · have he' : (x1 != x2) = false := by rw [he]; simp
            have HQ := Lib.hid he
            clear he
            go_wp2_with fail
            go_quiet (fail)
            go_wp2_with fail
            go_roundw
            case rel =>
              refine ⟨k + 1, by omega, by go_num, fun i hi => ?_, below_drewN hBr _⟩
              by_cases hik : i = k
              · subst hik
                rw [HRk.out.1, HRk.out.2, HE.out.1 HQ.out]
              · exact HA.out i (by omega)
            case measure => simp [intOf]; omega
          · have he' : (x1 != x2) = true := by rw [bne_iff_ne]; exact he
            have hne : R ≠ l := by
              rintro rfl
              exact he (HE.out.2 rfl)
            have hdf := HNO.out hne
            have HDF := Lib.hid hdf
            clear hdf hne he
            go_wp2_with fail
            go_quiet (fail)
            go_wp2_with fail
            rw [HDF.out]
            have hBq := below_drewN hBwr
            refine bodyPost_ret (v := .tuple #[.agg #[.int .i64 0, .int .i64 0, .int .i64 0, .int .i64 0, .int .i64 0, .slice none 0 0], .int .i64 3]) ?_ rfl ⟨DRes.no _ _, ?_⟩
            · simp [results, Try.results63, go_sem, cell_set, r0, r1, r2, r3, r4, r5]
            · exact Below.setCell (Below.setCell (Below.setCell (Below.setCell (Below.setCell (Below.setCell (hBq _) (Nat.le_refl _) _) (Nat.le_refl _) _) (Nat.le_refl _) _) (Nat.le_refl _) _) (Nat.le_refl _) _) (Nat.le_refl _) _
        · obtain rfl : k = 96 := by omega
          have hdf := HYES.out (agree_eq (by rw [hRl]; exact HA.out) (by rw [hRl, h96]))
          have HDF := Lib.hid hdf
          clear hdf h96 hRl
          go_wp2_with fail
          rw [HDF.out]
          have hge := own_ge own6r
          have hw7 : ∀ k, (Value.slice A3 d c3).ownBlock = some k → w.heap.size < k := fun k hk => by have := hge k hk; have := HSZ1.out; omega
          have own7 := own_far1 (own_far1 (own_far1 (own_far1 (own_far1 (own_far1 own6r (p := ⟨w.heap.size, 0, none⟩) (fun e => by have := hw7 _ e; simp at this) (.int .i64 n0)) (p := ⟨w.heap.size, 1, none⟩) (fun e => by have := hw7 _ e; simp at this) (.int .i64 n1)) (p := ⟨w.heap.size, 2, none⟩) (fun e => by have := hw7 _ e; simp at this) (.int .i64 n2)) (p := ⟨w.heap.size, 3, none⟩) (fun e => by have := hw7 _ e; simp at this) (.int .i64 n3)) (p := ⟨w.heap.size, 4, none⟩) (fun e => by have := hw7 _ e; simp at this) (.int .i64 n4)) (p := ⟨w.heap.size, 5, none⟩) (fun e => by have := hw7 _ e; simp at this) (.slice A3 d c3)
          have hval := HVAL.out A3 c3
          refine bodyPost_ret (v := .tuple #[.agg #[.int .i64 n0, .int .i64 n1, .int .i64 n2, .int .i64 n3, .int .i64 n4, .slice A3 d c3], .int .i64 0]) ?_ rfl ⟨⟨A3, c3, by rw [hval], by rw [HLN.out.2, HLN.out.1]; exact own_base own7 (Nat.le_succ _)⟩, ?_⟩
          · simp [results, Try.results63, go_sem, cell_set, r0, r1, r2, r3, r4, r5]
          · exact Below.setCell (Below.setCell (Below.setCell (Below.setCell (Below.setCell (Below.setCell hBwr (Nat.le_refl _) _) (Nat.le_refl _) _) (Nat.le_refl _) _) (Nat.le_refl _) _) (Nat.le_refl _) _) (Nat.le_refl _) _
  · have hHd := hHeld
    have q10 := (HL.out _ hHd).1; have q11 := (HL.out _ hHd).2
    have hHp := hHeld
    have hKeep := since_alloc hHeld (.cells #[.int .i64 0, .int .i64 0, .int .i64 0, .int .i64 0, .int .i64 0, .slice none 0 0] 111)
    go_simp
    refine hK.out _ _ (by (try dsimp only); exact hKeep) (fun hHeld => ?_); clear hK K hKeep; try simp only [pqZ]
    refine rdZ 2 20 rfl (by kernel_rfl) (fun K hK => ?_)
    go_simp
    refine (HG2.out _ hHeld).mono ?_
    rintro e x2 ⟨rfl, rfl⟩
    have hKeep := hHeld
    go_wp2_with fail
    refine hK.out _ _ (by (try dsimp only); exact hKeep) (fun hHeld => ?_); clear hK K hKeep; try simp only [pqZ]
    refine rdZ 5 23 rfl (by kernel_rfl) (fun K hK => ?_)
    go_simp
    refine (HG5.out _ hHeld).mono ?_
    rintro e x5 ⟨rfl, rfl⟩
    have hKeep := hHeld
    go_wp2_with fail
    refine hK.out _ _ (by (try dsimp only); exact hKeep) (fun hHeld => ?_); clear hK K hKeep; try simp only [pqZ]
    refine rdZ 8 26 rfl (by kernel_rfl) (fun K hK => ?_)
    go_simp
    refine (HG8.out _ hHeld).mono ?_
    rintro e x8 ⟨rfl, rfl⟩
    have hKeep := hHeld
    go_wp2_with fail
    refine hK.out _ _ (by (try dsimp only); exact hKeep) (fun hHeld => ?_); clear hK K hKeep; try simp only [pqZ]
    refine tkI 17 35 rfl (by intro w hSw; have q10 := (HL.out _ hSw).1; have q11 := (HL.out _ hSw).2; go_simp <;> with_reducible rfl) hHeld ?_; simp only [pqZ]
    refine wpAnyH_ready (rs := [19]) (by kernel_rfl) (by simp) ?_
    refine AllReadyH.cons (o := ⟨none, _, _, _, _, _⟩) rfl (fun K hK => ?_) AllReadyH.nil
    have hHd := hHeld
    have q10 := (HL.out _ hHd).1; have q11 := (HL.out _ hHd).2
    have hKeep := since_alloc hHp (.cells #[.int .i64 n0, .int .i64 n1, .int .i64 n2, .int .i64 n3, .int .i64 n4, .slice none 0 0] 111)
    skip
    go_simp
    refine hK.out _ _ (by (try dsimp only); exact hKeep) (fun hHeld => ?_); clear hK K hKeep; try simp only [pqZ]
    refine wpAnyH_done (by kernel_rfl) ?_ _
    have hV2 : Below v1.heap.size v1 (v1.alloc (.cells #[.int .i64 n0, .int .i64 n1, .int .i64 n2, .int .i64 n3, .int .i64 n4, .slice none 0 0] 111)).drew := hHeld
    have hbF := box6 (w := v1) (V := (v1.alloc (.cells #[.int .i64 n0, .int .i64 n1, .int .i64 n2, .int .i64 n3, .int .i64 n4, .slice none 0 0] 111)).drew) (by exact (Below.refl _ (v1.alloc (.cells #[.int .i64 n0, .int .i64 n1, .int .i64 n2, .int .i64 n3, .int .i64 n4, .slice none 0 0] 111))).drew)
    obtain ⟨z0, z1, z2, z3, z4, z5⟩ := hbF
    have hzz : ∀ i, (v1.alloc (.cells #[.int .i64 n0, .int .i64 n1, .int .i64 n2, .int .i64 n3, .int .i64 n4, .slice none 0 0] 111)).drew.frozen? ⟨v1.heap.size, i, none⟩ = false := fun i => frozen_new v1 _ _ i
    have hzl : v1.heap.size < (v1.alloc (.cells #[.int .i64 n0, .int .i64 n1, .int .i64 n2, .int .i64 n3, .int .i64 n4, .slice none 0 0] 111)).drew.heap.size := by rw [World.size_drew, World.size_alloc]; omega
    clear hHp hHeld
    generalize hV2w : (v1.alloc (.cells #[.int .i64 n0, .int .i64 n1, .int .i64 n2, .int .i64 n3, .int .i64 n4, .slice none 0 0] 111)).drew = v2 at *
    clear hV2w
    have HL12 : Hid (∀ V, Below v1.heap.size v1 V → V.cell? ⟨b, o + 12, none⟩ = some (.int .u8 (d : Int))) := Lib.hid fun V hV => (hV.cell (p := ⟨b, o + 12, none⟩) HBL.out).trans HC12.out
    have hsd := (HSL.out.below hV2).seg 13 d
    go_wp2_with fail
    refine wp_region_held_drew (S := (fun V' => Below v1.heap.size v1 V')) (by kernel_rfl) (by exact hV2.drew) (fun hHeld => ?_)
    refine tkI 0 36 rfl (by intro w hSw; have q12 := HL12.out _ hSw; go_simp <;> with_reducible rfl) hHeld ?_; simp only [pqZ]
    refine tkI 2 38 rfl (by intro w hSw; have q12 := HL12.out _ hSw; go_simp <;> with_reducible rfl) hHeld ?_; simp only [pqZ]
    refine tkI 3 39 rfl (by intro w hSw; have q12 := HL12.out _ hSw; go_simp <;> with_reducible rfl) hHeld ?_; simp only [pqZ]
    refine tkI 4 40 rfl (by intro w hSw; have q12 := HL12.out _ hSw; go_simp <;> with_reducible rfl) hHeld ?_; simp only [pqZ]
    refine tkI 5 41 rfl (by intro w hSw; have q12 := HL12.out _ hSw; go_simp <;> with_reducible rfl) hHeld ?_; simp only [pqZ]
    refine tkI 6 42 rfl (by intro w hSw; have q12 := HL12.out _ hSw; go_simp <;> with_reducible rfl) hHeld ?_; simp only [pqZ]
    refine tkI 7 43 rfl (by intro w hSw; have q12 := HL12.out _ hSw; go_simp <;> with_reducible rfl) hHeld ?_; simp only [pqZ]
    refine tkI 8 44 rfl (by intro w hSw; have q12 := HL12.out _ hSw; go_simp <;> with_reducible rfl) hHeld ?_; simp only [pqZ]
    refine rdZ 1 37 rfl (by kernel_rfl) (fun K hK => ?_)
    have hHd := hHeld
    have q12 := HL12.out _ hHd
    have hKeep := hHeld
    skip
    go_simp
    refine hK.out _ _ (by (try dsimp only); exact hKeep) (fun hHeld => ?_); clear hK K hKeep; try simp only [pqZ]
    refine rdZ 9 45 rfl (by kernel_rfl) (fun K hK => ?_)
    refine step_app rfl (.tmp 37) (.tmp 44) rfl EF8 (base := v2.heap.size) rfl rfl (own_nil _ _ _) (m := d) (news := by8 (seg l 13 d)) (by rw [by8_length, HSL2.out]; omega) hsd (by8_one _) (by unfold maxLen; omega) (by omega) (Nat.le_refl _) ?_
    intro A3 c3 w3 own3 hg3 hb3
    simp only [Nat.zero_add, List.nil_append] at own3 ⊢
    have hb3 : Below v2.heap.size v2 w3 := ⟨hb3.os, hb3.tape, hb3.output, hb3.size, hb3.block⟩
    have hKeep : Below v1.heap.size v1 w3 := hV2.trans (hb3.mono hV2.size)
    have z5b := (hb3.cell (p := ⟨v1.heap.size, 5, none⟩) hzl).trans z5
    have z0b := (hb3.cell (p := ⟨v1.heap.size, 0, none⟩) hzl).trans z0
    have z1b := (hb3.cell (p := ⟨v1.heap.size, 1, none⟩) hzl).trans z1
    have z2b := (hb3.cell (p := ⟨v1.heap.size, 2, none⟩) hzl).trans z2
    have z3b := (hb3.cell (p := ⟨v1.heap.size, 3, none⟩) hzl).trans z3
    have z4b := (hb3.cell (p := ⟨v1.heap.size, 4, none⟩) hzl).trans z4
    have hzzb : ∀ i, w3.frozen? ⟨v1.heap.size, i, none⟩ = false := fun i => (hb3.frozen (p := ⟨v1.heap.size, i, none⟩) hzl).trans (hzz i)
    have hzlb : v1.heap.size < w3.heap.size := Nat.lt_of_lt_of_le hzl hb3.size
    have hKp := hKeep
    refine hK.out _ _ (by (try dsimp only); exact hKeep) (fun hHeld => ?_); clear hK K hKeep; try simp only [pqZ]
    refine tkI 10 46 rfl (by intro w hSw; have q12 := HL12.out _ hSw; go_simp <;> with_reducible rfl) hHeld ?_; simp only [pqZ]
    refine wpAnyH_ready (rs := [11]) (by kernel_rfl) (by simp) ?_
    refine AllReadyH.cons (o := ⟨none, _, _, _, _, _⟩) rfl (fun K hK => ?_) AllReadyH.nil
    have hHd := hHeld
    have q12 := HL12.out _ hHd
    have hKeep := Below.setCell hKp (p := ⟨v1.heap.size, 5, none⟩) (Nat.le_refl _) (.slice A3 d c3)
    skip
    go_simp
    refine hK.out _ _ (by (try dsimp only); exact hKeep) (fun hHeld => ?_); clear hK K hKeep; try simp only [pqZ]
    refine wpAnyH_done (by kernel_rfl) ?_ _
    have hBw3 : Below w.heap.size w w3 := HBW.out.trans (hKp.mono HSZ.out)
    have own4 := own_far1 own3 (p := ⟨v1.heap.size, 5, none⟩) (fun e => by have := own_ge own3 _ e; simp at this; omega) (.slice A3 d c3)
    have own4 := own_base own4 (show w.heap.size + 1 ≤ v2.heap.size by have := HSZ1.out; have := hV2.size; omega)
    have hB4 := HB0.out.trans ((Below.setCell hKp (p := ⟨v1.heap.size, 5, none⟩) (Nat.le_refl _) (.slice A3 d c3)).mono HSZ1.out)
    have hwl := HSZ.out
    have hvl : v1.heap.size < (w3.setCell ⟨v1.heap.size, 5, none⟩ (.slice A3 d c3)).heap.size := by simpa using hzlb
    have u : ∀ i, (w3.setCell ⟨v1.heap.size, 5, none⟩ (.slice A3 d c3)).cell? ⟨v1.heap.size, i, none⟩ = if i = 5 then some (.slice A3 d c3) else w3.cell? ⟨v1.heap.size, i, none⟩ := by
      intro i
      by_cases hi : i = 5
      · subst hi; rw [if_pos rfl]; exact World.cell?_setCell_same w3 _ _ z5b
      · rw [if_neg hi]; exact World.cell?_setCell_other w3 _ _ _ (by intro e; injection e with _ e2; exact hi e2.symm)
    have u0 := (u 0).trans ((if_neg (by decide)).trans z0b)
    have u1 := (u 1).trans ((if_neg (by decide)).trans z1b)
    have u2 := (u 2).trans ((if_neg (by decide)).trans z2b)
    have u3 := (u 3).trans ((if_neg (by decide)).trans z3b)
    have u4 := (u 4).trans ((if_neg (by decide)).trans z4b)
    have u5 := (u 5).trans (if_pos rfl)
    have hsl4 := Sl.of_own own4
    generalize hW4 : w3.setCell ⟨v1.heap.size, 5, none⟩ (.slice A3 d c3) = w4 at *
    clear u z0b z1b z2b z3b z4b z5b z0 z1 z2 z3 z4 z5 hzzb hzz hzlb hzl own3 hKp hg3 hb3 hHeld hV2 hsd
    go_wp2_with fail
    have henc := HENC.out A3 c3 w4 hsl4
    refine henc.mono ?_
    rintro e w5 ⟨⟨A5, c5, rfl, own5⟩, hb5⟩
    have hB5 := hB4.trans (hb5.mono (Nat.le_trans (Nat.le_of_lt_succ (Nat.lt_succ_of_lt (Nat.lt_of_le_of_lt HSZ1.out hvl))) (Nat.le_refl _)))
    have hvl5 : v1.heap.size < w5.heap.size := Nat.lt_of_lt_of_le hvl hb5.size
    have t0 := (hb5.cell (p := ⟨v1.heap.size, 0, none⟩) hvl).trans u0
    have t1 := (hb5.cell (p := ⟨v1.heap.size, 1, none⟩) hvl).trans u1
    have t2 := (hb5.cell (p := ⟨v1.heap.size, 2, none⟩) hvl).trans u2
    have t3 := (hb5.cell (p := ⟨v1.heap.size, 3, none⟩) hvl).trans u3
    have t4 := (hb5.cell (p := ⟨v1.heap.size, 4, none⟩) hvl).trans u4
    have t5 := (hb5.cell (p := ⟨v1.heap.size, 5, none⟩) hvl).trans u5
    have own6 := own_below own4 hb5
    obtain ⟨y0, y1, y2, y3, y4, y5⟩ := HBX.out _ hB5
    obtain ⟨hfz, hglt⟩ := HFZ.out _ hB5
    have hBw5 : Below w.heap.size w w5 := HBW0.out _ hB5
    clear henc hb5 u0 u1 u2 u3 u4 u5 own4 hsl4
    rw [HENF.out] at own5 ⊢
    simp only at own5 ⊢
    rw [HRL.out] at own5 ⊢
    go_wp2_with fail
    have hsR := Sl.of_own own5
    have hs5 : Sl w5 (some ⟨b, o, none⟩) (by8 l) := HSL0.out.below hBw5
    clear own5
    have hlb5 : b < w5.heap.size := Nat.lt_of_lt_of_le HBLT.out hBw5.size
    go_loopw [7] (fun iv wr => ∃ k : Nat, k ≤ 96 ∧ iv = .int .i64 k ∧ Agree R l k ∧ Below w5.heap.size w5 wr) (fun iv _ => 96 - (intOf iv).toNat)
    case atStart => exact ⟨0, Nat.zero_le _, rfl, (fun i hi => absurd hi (by omega)), Below.refl _ _⟩
    case round =>
      obtain ⟨k, hk, rfl, hag, hBr⟩ := hrel
      have HA := Lib.hid hag
      clear hag
      have h96 := H96.out
      have hRl := HRL.out
      have hsRr := hsR.below hBr
      have hs5r := hs5.below hBr
      have s0 := (hBr.cell (p := ⟨v1.heap.size, 0, none⟩) hvl5).trans t0
      have s1 := (hBr.cell (p := ⟨v1.heap.size, 1, none⟩) hvl5).trans t1
      have s2 := (hBr.cell (p := ⟨v1.heap.size, 2, none⟩) hvl5).trans t2
      have s3 := (hBr.cell (p := ⟨v1.heap.size, 3, none⟩) hvl5).trans t3
      have s4 := (hBr.cell (p := ⟨v1.heap.size, 4, none⟩) hvl5).trans t4
      have s5 := (hBr.cell (p := ⟨v1.heap.size, 5, none⟩) hvl5).trans t5
      have hvlr : v1.heap.size < wr.heap.size := Nat.lt_of_lt_of_le hvl5 hBr.size
      have r0 := (hBr.cell (p := ⟨w.heap.size, 0, none⟩) hglt).trans y0
      have r1 := (hBr.cell (p := ⟨w.heap.size, 1, none⟩) hglt).trans y1
      have r2 := (hBr.cell (p := ⟨w.heap.size, 2, none⟩) hglt).trans y2
      have r3 := (hBr.cell (p := ⟨w.heap.size, 3, none⟩) hglt).trans y3
      have r4 := (hBr.cell (p := ⟨w.heap.size, 4, none⟩) hglt).trans y4
      have r5 := (hBr.cell (p := ⟨w.heap.size, 5, none⟩) hglt).trans y5
      have hgltr : w.heap.size < wr.heap.size := Nat.lt_of_lt_of_le hglt hBr.size
      have hfzr : ∀ i, wr.frozen? ⟨w.heap.size, i, none⟩ = false := fun i => (hBr.frozen (p := ⟨w.heap.size, i, none⟩) hglt).trans (hfz i)
      have hBwr : Below w.heap.size w wr := hBw5.trans (hBr.mono hBw5.size)
      have own6r := own_below own6 hBr
      clear t0 t1 t2 t3 t4 t5 y0 y1 y2 y3 y4 y5 hfz hglt hvl5 hB5
      by_cases hlt : k < 96
      · have hk1 : k < R.length := by omega
        have hk2 : k < l.length := by omega
        obtain ⟨b1, o1, hA1, hz1⟩ := hsRr.byte hk1
        subst hA1
        have hz2 : wr.cell? ⟨b, o + k, none⟩ = some (.int .u8 (l[k] : Nat)) := by
          obtain ⟨_, _, e, h⟩ := hs5r.byte hk2
          injection e with e; injection e with e1 e2; subst e1; subst e2
          exact h
        have hlb : b < wr.heap.size := Nat.lt_of_lt_of_le hlb5 hBr.size
        obtain ⟨x1, hx1⟩ : ∃ x : Int, ((R[k] : Nat) : Int) = x := ⟨_, rfl⟩
        obtain ⟨x2, hx2⟩ : ∃ x : Int, ((l[k] : Nat) : Int) = x := ⟨_, rfl⟩
        rw [hx1] at hz1
        rw [hx2] at hz2
        have HE : Hid (x1 = x2 ↔ R[k] = l[k]) := Lib.hid (by omega)
        have HRk : Hid (R[k]? = some R[k] ∧ l[k]? = some l[k]) := Lib.hid ⟨List.getElem?_eq_getElem hk1, List.getElem?_eq_getElem hk2⟩
        clear hx1 hx2 h96 hRl
        by_cases he : x1 = x2
        · have he' : (x1 != x2) = false := by rw [he]; simp
          have HQ := Lib.hid he
          clear he
          go_wp2_with fail
          go_quiet (fail)
          go_wp2_with fail
          go_roundw
          case rel =>
            refine ⟨k + 1, by omega, by go_num, fun i hi => ?_, below_drewN hBr _⟩
            by_cases hik : i = k
            · subst hik
              rw [HRk.out.1, HRk.out.2, HE.out.1 HQ.out]
            · exact HA.out i (by omega)
          case measure => simp [intOf]; omega
        · have he' : (x1 != x2) = true := by rw [bne_iff_ne]; exact he
          have hne : R ≠ l := by
            rintro rfl
            exact he (HE.out.2 rfl)
          have hdf := HNO.out hne
          have HDF := Lib.hid hdf
          clear hdf hne he
          go_wp2_with fail
          go_quiet (fail)
          go_wp2_with fail
          rw [HDF.out]
          have hBq := below_drewN hBwr
          refine bodyPost_ret (v := .tuple #[.agg #[.int .i64 0, .int .i64 0, .int .i64 0, .int .i64 0, .int .i64 0, .slice none 0 0], .int .i64 3]) ?_ rfl ⟨DRes.no _ _, ?_⟩
          · simp [results, Try.results63, go_sem, cell_set, r0, r1, r2, r3, r4, r5]
          · exact Below.setCell (Below.setCell (Below.setCell (Below.setCell (Below.setCell (Below.setCell (hBq _) (Nat.le_refl _) _) (Nat.le_refl _) _) (Nat.le_refl _) _) (Nat.le_refl _) _) (Nat.le_refl _) _) (Nat.le_refl _) _
      · obtain rfl : k = 96 := by omega
        have hdf := HYES.out (agree_eq (by rw [hRl]; exact HA.out) (by rw [hRl, h96]))
        have HDF := Lib.hid hdf
        clear hdf h96 hRl
        go_wp2_with fail
        rw [HDF.out]
        have hge := own_ge own6r
        have hw7 : ∀ k, (Value.slice A3 d c3).ownBlock = some k → w.heap.size < k := fun k hk => by have := hge k hk; have := HSZ1.out; omega
        have own7 := own_far1 (own_far1 (own_far1 (own_far1 (own_far1 (own_far1 own6r (p := ⟨w.heap.size, 0, none⟩) (fun e => by have := hw7 _ e; simp at this) (.int .i64 n0)) (p := ⟨w.heap.size, 1, none⟩) (fun e => by have := hw7 _ e; simp at this) (.int .i64 n1)) (p := ⟨w.heap.size, 2, none⟩) (fun e => by have := hw7 _ e; simp at this) (.int .i64 n2)) (p := ⟨w.heap.size, 3, none⟩) (fun e => by have := hw7 _ e; simp at this) (.int .i64 n3)) (p := ⟨w.heap.size, 4, none⟩) (fun e => by have := hw7 _ e; simp at this) (.int .i64 n4)) (p := ⟨w.heap.size, 5, none⟩) (fun e => by have := hw7 _ e; simp at this) (.slice A3 d c3)
        have hval := HVAL.out A3 c3
        refine bodyPost_ret (v := .tuple #[.agg #[.int .i64 n0, .int .i64 n1, .int .i64 n2, .int .i64 n3, .int .i64 n4, .slice A3 d c3], .int .i64 0]) ?_ rfl ⟨⟨A3, c3, by rw [hval], by rw [HLN.out.2, HLN.out.1]; exact own_base own7 (Nat.le_succ _)⟩, ?_⟩
        · simp [results, Try.results63, go_sem, cell_set, r0, r1, r2, r3, r4, r5]
        · exact Below.setCell (Below.setCell (Below.setCell (Below.setCell (Below.setCell (Below.setCell hBwr (Nat.le_refl _) _) (Nat.le_refl _) _) (Nat.le_refl _) _) (Nat.le_refl _) _) (Nat.le_refl _) _) (Nat.le_refl _) _
theorem rdec7_any (A : Option Addr) (c : Nat) (l : List Nat) (w : World) (hlc : l.length ≤ c) (hcm : c ≤ maxLen) (hs : Sl w A (by8 l)) (ho : Oct l) :
    Calls Try.prog 63 #[.slice A l.length c] w fun e w' => DRes w.heap.size w' e (decF l) ∧ Below w.heap.size w w' := by
  by_cases h96 : l.length = 96
  · obtain ⟨b, o, rfl, _⟩ := hs.byte (j := 0) (by omega)
    by_cases hd : l.getD 12 0 ≤ 80
    · cases hok : (cand l).ok with
      | false =>
        rw [decF_bad hok, h96]
        exact rdec7_unfit b o c l w h96 (by omega) hcm hs ho hd hok
      | true =>
        rw [h96]
        exact rdec7_loop b o c l w h96 (by omega) hcm hs ho hd hok
    · have hcd : w.cell? ⟨b, o + 12, none⟩ = some (.int .u8 (l.getD 12 0 : Nat)) := by
        obtain ⟨_, _, e, h⟩ := hs.byte (j := 12) (by omega)
        injection e with e; injection e with e1 e2; subst e1; subst e2
        rw [h, List.getD_eq_getElem?_getD, List.getElem?_eq_getElem (by omega)]
        rfl
      have hx : l.getD 12 0 < 256 := by
        rw [List.getD_eq_getElem?_getD, List.getElem?_eq_getElem (by omega)]
        exact ho.at_ (by omega)
      rw [decF_big h96 (by omega), h96]
      exact rdec7_big b o c _ w (by omega) hcm (by omega) hx hcd
  · rw [decF_short h96]
    exact rdec7_short A l.length c w h96
end
end Go.Proofs.Ytiggcpfmmgmncaa
