/-
  Layer 4, eighth part: Text of the reader (laid by gen_pack8.py).
-/
import Derived.Test.YtppfbabdglbdaaaPack7
namespace Go.Proofs.Ytppfbabdglbdaaa
open Go.ChangeShapes Go.WideShapes Go.ChangeAt Go.RowKit
set_option linter.unusedVariables false
set_option linter.unusedSimpArgs false

theorem rdI_lo {lo hi : Int} {s : Rs} (h : (rdI lo hi s).2.err = 0) : lo ≤ (rdI lo hi s).1 ∧ (rdI lo hi s).1 ≤ hi := by
  revert h
  unfold rdI
  split
  · intro h; rename_i h2; exact absurd h h2
  · split
    · intro h; rename_i h2; exact absurd h h2
    · split
      · intro h; cases h
      · intro _; simp only; omega
theorem Oct.dropB {l : List Nat} (h : Oct l) (n : Nat) : Oct (l.drop n) := fun x hx => h x (List.mem_of_mem_drop hx)

set_option maxHeartbeats 4000000 in
set_option maxRecDepth 100000 in
theorem rtext4_any (g : Nat) (A : Option Addr) (c : Nat) (B : List Nat) (er most : Int) (w : World) (hR : Rdr w g A c B er) :
    Calls Try.prog 19 #[.pointer (some ⟨g, 0, none⟩), .int .i64 most] w fun e w' => e = .returned (.string (bs8 (rdT most ⟨B, er⟩).1)) ∧ Chg g none w w' ∧ ∃ A' c', Rdr w' g A' c' (rdT most ⟨B, er⟩).2.B (rdT most ⟨B, er⟩).2.err := by
  obtain ⟨RR, hRR⟩ : ∃ RR, rdT most ⟨B, er⟩ = RR := ⟨_, rfl⟩
  have HI := rint4_any g A c B er 0 most w hR
  have hlo := rdI_lo (lo := 0) (hi := most) (s := ⟨B, er⟩)
  rw [hRR]
  unfold rdT at hRR
  obtain ⟨R, hRe⟩ : ∃ R, rdI 0 most ⟨B, er⟩ = R := ⟨_, rfl⟩
  rw [hRe] at HI hRR hlo
  obtain ⟨n, B1, e1⟩ := R
  simp only at HI hRR hlo
  have HRR := Lib.hid hRR
  have HLO := Lib.hid hlo
  clear hRR hRe hlo
  go_enter Try.func19, Try.ntmps19
  go_wp2_with fail
  refine HI.mono ?_
  rintro e w1 ⟨rfl, hC1, A1, c1, hR1⟩
  have hFT := rfit_any g true _ _ w1 hR1.blk
  clear HI hR
  go_wp2_with fail
  refine hFT.mono ?_
  rintro e w2 ⟨rfl, hb⟩
  have hR2 := hR1.below hb
  have hC := hC1.trans (Chg.of_below hb : Chg g none w1 w2) (.inl rfl)
  clear hFT hR1 hb hC1
  by_cases he : e1 = 0
  · subst he
    have hn0 := (HLO.out rfl).1
    have HR3 : Hid ((if (B1.length : Int) < n then (([] : List Nat), (⟨[], 4⟩ : Rs)) else (B1.take n.toNat, ⟨B1.drop n.toNat, 0⟩)) = RR) := Lib.hid (by
      have h := HRR.out
      rw [if_neg (by simp)] at h
      exact h)
    clear HRR HLO
    by_cases hlt : (B1.length : Int) < n
    · have HE := Lib.hid (HR3.out.symm.trans (if_pos hlt))
      obtain ⟨k0, k1, k2, z0, z1, z2, lg⟩ := blk_got3 hR2.blk
      go_wp2_with fail
      refine (rfail_any g A1 c1 B1 0 4 w2 hR2).mono ?_
      rintro e w3 ⟨rfl, hR3, hC3⟩
      go_wp2_with fail
      go_ret
      rw [HE.out]
      exact ⟨rfl, hC.trans hC3 (.inl rfl), none, 0, hR3⟩
    · have HE := Lib.hid (HR3.out.symm.trans (if_neg hlt))
      obtain ⟨N, rfl⟩ := Int.eq_ofNat_of_zero_le hn0
      simp only [Int.toNat_natCast] at HE
      have hNB : N ≤ B1.length := by omega
      clear HR3 hn0 hlt
      rcases hR2.lies with ⟨rfl, rfl, rfl⟩ | ⟨b, o, rfl, hbg⟩
      · obtain rfl : N = 0 := by simpa using hNB
        obtain ⟨k0, k1, k2, z0, z1, z2, lg⟩ := blk_got3 hR2.blk
        have hcv := conv_none (w := w2) (cap := 0)
        simp only [List.length_nil] at k1
        have hRN := hR2.put (A' := none) (c' := 0) (B' := []) Sl.nil (Nat.le_refl _) (by decide) (.inl ⟨rfl, rfl, rfl⟩) (fun x hx => by cases hx)
        simp only [List.length_nil] at hRN
        have hCN : Chg g none w (w2.setCell ⟨g, 1, none⟩ (.slice none 0 0)) := hC.trans (Chg.set 1 _) (.inl rfl)
        go_wp2_with fail
        go_ret
        rw [HE.out]
        exact ⟨rfl, hCN, none, 0, hRN⟩
      · obtain ⟨k0, k1, k2, z0, z1, z2, lg⟩ := blk_got3 hR2.blk
        have hcp := hR2.cap
        have hcm := hR2.cm
        have hcv := conv_take (n := N) (cap := c1) hR2.sl hNB hR2.oct
        have hmx : c1 ≤ maxLen := hcm
        unfold maxLen at hcm
        have hdl : (B1.drop N).length = B1.length - N := List.length_drop
        by_cases hcN : c1 = N
        · subst hcN
          have hs : Sl w2 (some ⟨b, o, none⟩) (by8 (B1.drop c1)) := by
            have : B1.drop c1 = [] := by apply List.eq_nil_of_length_eq_zero; omega
            rw [this]
            exact Sl.nil
          have hRN := hR2.put (A' := some ⟨b, o, none⟩) (c' := 0) (B' := B1.drop c1) hs (by omega) (by decide) (.inr ⟨b, o, rfl, hbg⟩) (hR2.oct.dropB c1)
          have hz : (B1.drop c1).length = 0 := by omega
          rw [hz] at hRN
          have hCN : Chg g none w (w2.setCell ⟨g, 1, none⟩ (.slice (some ⟨b, o, none⟩) 0 0)) := hC.trans (Chg.set 1 _) (.inl rfl)
          clear hdl hs hz
          go_wp2_with fail
          go_ret
          rw [HE.out]
          exact ⟨rfl, hCN, _, _, hRN⟩
        · have hs : Sl w2 (some ⟨b, o + N, none⟩) (by8 (B1.drop N)) := by
            rw [by8_drop]
            exact hR2.sl.dropN N
          have hRN := hR2.put (A' := some ⟨b, o + N, none⟩) (c' := c1 - N) (B' := B1.drop N) hs (by omega) (by omega) (.inr ⟨b, o + N, rfl, hbg⟩) (hR2.oct.dropB N)
          rw [hdl] at hRN
          have hCN : Chg g none w (w2.setCell ⟨g, 1, none⟩ (.slice (some ⟨b, o + N, none⟩) (B1.length - N) (c1 - N))) := hC.trans (Chg.set 1 _) (.inl rfl)
          clear hdl hs
          go_wp2_with fail
          go_ret
          rw [HE.out]
          exact ⟨rfl, hCN, _, _, hRN⟩
  · have HE : Hid (RR = (([] : List Nat), (⟨B1, e1⟩ : Rs))) := Lib.hid (by
      rw [← HRR.out, if_pos he])
    have hge1 : (e1 == 0) = false := by simpa using he
    have hge2 : (e1 != 0) = true := by simpa using he
    obtain ⟨k0, k1, k2, z0, z1, z2, lg⟩ := blk_got3 hR2.blk
    go_wp2_with fail
    go_ret
    rw [HE.out]
    exact ⟨rfl, hC, A1, c1, hR2⟩
set_option maxHeartbeats 1000000 in
set_option maxRecDepth 100000 in
theorem rtext_no (p : Value) (most : Int) (w : World) (h : ∀ w', Below w.heap.size w w' → NoR w' p) :
    Calls Try.prog 19 #[p, .int .i64 most] w fun e w' => e = .returned (.string .empty) ∧ Below w.heap.size w w' := by
  have HI := Lib.hid (rint_no p (.int .i64 0) (.int .i64 most) w (h _ (Below.refl _ _)))
  have H := Lib.hid h
  clear h
  go_enter Try.func19, Try.ntmps19
  go_wp2_with fail
  refine HI.out.mono ?_
  rintro e w1 ⟨rfl, hb⟩
  have h1 := H.out _ hb
  unfold NoR at h1
  clear HI H
  go_wp2_with fail
  refine h1.mono ?_
  rintro e w2 ⟨rfl, hb2⟩
  have hB := since_step hb hb2
  go_wp2_with fail
  go_ret
  exact ⟨rfl, hB⟩
end Go.Proofs.Ytppfbabdglbdaaa
