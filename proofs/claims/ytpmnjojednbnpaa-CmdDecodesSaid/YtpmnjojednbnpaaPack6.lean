/-
  Layer 4, sixth part: groups of the reader (laid by gen_pack6.py).
-/
import Derived.Test.YtpmnjojednbnpaaPack5
namespace Go.Proofs.Ytpmnjojednbnpaa
open Go.ChangeShapes Go.WideShapes Go.ChangeAt Go.RowKit
set_option linter.unusedVariables false
set_option linter.unusedSimpArgs false


theorem or_join {z q : Int} {i : Nat} (hz : 0 ≤ z) (hq : 0 ≤ q) (h1 : z.toNat < 2 ^ i) (h4 : z < 18446744073709551616) (h2 : q * 2 ^ i < 18446744073709551616) : bits BinOp.or IntKind.u64 z (q * 2 ^ i) = z + q * 2 ^ i := by
  obtain ⟨Z, rfl⟩ := Int.eq_ofNat_of_zero_le hz
  obtain ⟨Q, rfl⟩ := Int.eq_ofNat_of_zero_le hq
  have e : ((Q : Int) * 2 ^ i) = ((Q * 2 ^ i : Nat) : Int) := by push_cast; rfl
  have h3 : Q * 2 ^ i < 18446744073709551616 := by rw [e] at h2; omega
  rw [e, u64_or_nat Z (Q * 2 ^ i) (by omega) h3, Nat.or_comm, nat_join i _ _ (by simp) (by simpa using h1)]
  push_cast
  omega
theorem grp_num {z k y : Int} {x : Nat} (hk : 0 ≤ k) (hk8 : k ≤ 8) (hz0 : 0 ≤ z) (hzp : z.toNat < 2 ^ (7 * k.toNat)) (hy : y.toNat = x) (hy0 : 0 ≤ y) (hy1 : y < 256) :
    ∃ S, bits BinOp.or IntKind.u64 z (IntKind.u64.wrap (y % 128 * 2 ^ (7 * k).toNat)) = S ∧ 0 ≤ S ∧ S < 18446744073709551616 ∧ S.toNat < 2 ^ (7 * (k + 1).toNat) ∧ S.toNat = z.toNat + x % 128 * 2 ^ (7 * k.toNat) := by
  obtain ⟨K, rfl⟩ := Int.eq_ofNat_of_zero_le hk
  obtain ⟨Z, rfl⟩ := Int.eq_ofNat_of_zero_le hz0
  obtain ⟨Y, rfl⟩ := Int.eq_ofNat_of_zero_le hy0
  have e1 : (7 * (K : Int)).toNat = 7 * K := by omega
  have e2 : ((K : Int) + 1).toNat = K + 1 := by omega
  simp only [Int.toNat_natCast] at hzp hy
  subst hy
  rw [e1, e2]
  simp only [Int.toNat_natCast]
  have hP : 2 ^ (7 * K) ≤ 72057594037927936 := by
    have : (2 : Nat) ^ (7 * K) ≤ 2 ^ 56 := Nat.pow_le_pow_right (by omega) (by omega)
    simpa using this
  have hP2 : 2 ^ (7 * (K + 1)) = 2 ^ (7 * K) * 128 := by rw [show 7 * (K + 1) = 7 * K + 7 by omega, Nat.pow_add]
  have hm : Y % 128 * 2 ^ (7 * K) ≤ 127 * 2 ^ (7 * K) := Nat.mul_le_mul_right _ (by omega)
  have e3 : ((Y : Int) % 128 * 2 ^ (7 * K)) = ((Y % 128 * 2 ^ (7 * K) : Nat) : Int) := by push_cast; rfl
  obtain ⟨M, hM⟩ : ∃ M, Y % 128 * 2 ^ (7 * K) = M := ⟨_, rfl⟩
  obtain ⟨P, hPe⟩ : ∃ P, 2 ^ (7 * K) = P := ⟨_, rfl⟩
  have hb : M < 18446744073709551616 := by rw [hM, hPe] at hm; rw [hPe] at hP; omega
  have hb2 : (Z : Int) < 18446744073709551616 := by rw [hPe] at hP hzp; omega
  have hw : IntKind.u64.wrap ((Y : Int) % 128 * 2 ^ (7 * K)) = (Y : Int) % 128 * 2 ^ (7 * K) := IntWalk.u64_in _ (by rw [e3, hM]; omega)
  rw [hw, or_join (by omega) (by omega) (by simpa using hzp) hb2 (by rw [e3, hM]; omega), e3, hM]
  have hzp' : Z < P := by rw [hPe] at hzp; exact hzp
  rw [hM, hPe] at hm
  rw [hPe] at hP
  refine ⟨_, rfl, by omega, by omega, ?_, by omega⟩
  rw [hP2, hPe]
  omega
set_option maxHeartbeats 4000000 in
set_option maxRecDepth 100000 in
theorem rgroups_any (g : Nat) (A : Option Addr) (c : Nat) (B : List Nat) (er : Int) (w : World) (hR : Rdr w g A c B er) :
    Calls Try.prog 77 #[.pointer (some ⟨g, 0, none⟩)] w fun e w' => e = .returned (.tuple #[.int .u64 ((grp 10 0 B).2.1 : Nat), .int .i64 (grp 10 0 B).1]) ∧ Chg g none w w' ∧ ∃ A' c', Rdr w' g A' c' (grp 10 0 B).2.2 er := by
  obtain ⟨R0, hR0⟩ : ∃ R, grp 10 0 B = R := ⟨_, rfl⟩
  rw [hR0]
  have HR0 := Lib.hid hR0
  clear hR0
  go_enter Try.func77, Try.ntmps77
  go_wp2_with fail
  go_loopw [4, 7] (fun uv iv wr => ∃ (z k : Int) (A2 : Option Addr) (c2 : Nat) (B2 : List Nat), uv = .int .u64 z ∧ iv = .int .i64 k ∧ 0 ≤ k ∧ k ≤ 10 ∧ 0 ≤ z ∧ z.toNat < 2 ^ (7 * k.toNat) ∧ z < 18446744073709551616 ∧ grp (10 - k.toNat) z.toNat B2 = R0 ∧ Rdr wr g A2 c2 B2 er ∧ Chg g none w wr) (fun _ iv _ => 10 - (intOf iv).toNat)
  case atStart => exact ⟨0, 0, A, c, B, rfl, rfl, by decide, by decide, by decide, by decide, by decide, HR0.out, hR, Chg.refl _ _ _⟩
  case round =>
    obtain ⟨z, k, A2, c2, B2, rfl, rfl, hk0, hk1, hz0, hzp, hzl, hgr, hR2, hC2⟩ := hrel
    obtain ⟨k0, k1, k2, z0, z1, z2, lg⟩ := blk_got3 hR2.blk
    have hB2c := hR2.cap
    have hcm := hR2.cm
    unfold maxLen at hcm
    have HGR := Lib.hid hgr
    have HZP := Lib.hid hzp
    clear hgr hzp
    by_cases hlt : k < 10
    · cases B2 with
      | nil =>
        have HE : Hid (R0 = (4, 0, [])) := Lib.hid (by
          rw [← HGR.out, show 10 - k.toNat = (9 - k.toNat) + 1 by omega, grp])
        simp only [List.length_nil] at k1
        go_wp2_with fail
        go_ret2
        rw [HE.out]
        exact ⟨rfl, hC2, A2, c2, hR2⟩
      | cons x B3 =>
        have hx := hR2.oct x (by simp)
        obtain ⟨b, o, rfl, hc0⟩ := hR2.sl.byte (j := 0) (by simp)
        simp only [Nat.add_zero, List.getElem_cons_zero, List.length_cons] at hc0 k1 hB2c
        obtain ⟨y, hy⟩ : ∃ y : Int, (x : Int) = y := ⟨_, rfl⟩
        rw [hy] at hc0
        have hy0 : 0 ≤ y := by omega
        have hy1 : y < 256 := by omega
        have HY : Hid (y.toNat = x) := Lib.hid (by omega)
        obtain ⟨n, hn⟩ : ∃ n, B3.length = n := ⟨_, rfl⟩
        rw [hn] at k1 hB2c
        have HN := Lib.hid hn
        clear hy hx hn
        have hn1 : ¬ ((n : Int) + 1 = 0) := by omega
        have hand := and_127 hy0 hy1
        obtain ⟨A3, hA3⟩ : ∃ A3, (if c2 = 1 then some (⟨b, o, none⟩ : Addr) else some ⟨b, o + 1, none⟩) = A3 := ⟨_, rfl⟩
        have HRN : Hid (Rdr (wr.setCell ⟨g, 1, none⟩ (.slice A3 n (c2 - 1))) g A3 (c2 - 1) B3 er) := Lib.hid (by
          have hb : b < g := by
            rcases hR2.lies with ⟨e, _⟩ | ⟨b1, o1, e, h⟩
            · cases e
            · injection e with e
              injection e with e _
              subst e
              exact h
          have hs : Sl wr A3 (by8 B3) := by
            rw [← hA3]
            by_cases h1 : c2 = 1
            · rw [if_pos h1]
              have : B3 = [] := by apply List.eq_nil_of_length_eq_zero; rw [HN.out]; omega
              subst this
              exact Sl.nil
            · rw [if_neg h1]
              have := hR2.sl.dropN 1
              simpa [by8] using this
          have h := hR2.put (A' := A3) (c' := c2 - 1) (B' := B3) hs (by rw [HN.out]; omega) (by unfold maxLen; omega) (by rw [← hA3]; split <;> exact .inr ⟨b, _, rfl, hb⟩) (fun q hq => hR2.oct q (by simp [hq]))
          rw [HN.out] at h
          exact h)
        have HCN : Hid (Chg g none w (wr.setCell ⟨g, 1, none⟩ (.slice A3 n (c2 - 1)))) := Lib.hid (hC2.trans (Chg.set 1 _) (.inl rfl))
        go_upto_region 9 with fail
        try rw [hA3]
        clear hA3 hC2 hR2 k0 k1 k2 z0 z1 z2 lg hc0 hcm hB2c hn1
        generalize wr.setCell ⟨g, 1, none⟩ (.slice A3 n (c2 - 1)) = w5 at *
        by_cases hk9 : k = 9
        · subst hk9
          by_cases hy2 : 1 < y
          · have HE : Hid (R0 = (3, 0, B3)) := Lib.hid (by
              rw [← HGR.out, show 10 - (9 : Int).toNat = 0 + 1 by decide, grp, if_pos (.inl ⟨rfl, by have := HY.out; omega⟩)])
            go_wp2_with fail
            go_ret2
            rw [HE.out]
            exact ⟨rfl, HCN.out, A3, c2 - 1, HRN.out⟩
          · by_cases hy3 : y = 0
            · subst hy3
              have HE : Hid (R0 = (3, 0, B3)) := Lib.hid (by
                rw [← HGR.out, show 10 - (9 : Int).toNat = 0 + 1 by decide, grp, if_pos (.inr ⟨by decide, by have := HY.out; omega⟩)])
              go_wp2_with fail
              go_ret2
              rw [HE.out]
              exact ⟨rfl, HCN.out, A3, c2 - 1, HRN.out⟩
            · obtain rfl : y = 1 := by omega
              go_wp2_with fail
              have HE : Hid (R0 = (0, z.toNat + 9223372036854775808, B3)) := Lib.hid (by
                rw [← HGR.out, show 10 - (9 : Int).toNat = 0 + 1 by decide, grp, if_neg (by have := HY.out; omega), if_pos (by have := HY.out; omega)]
                have e : x = 1 := by have := HY.out; omega
                rw [e])
              have hj := or_join (z := z) (q := 1) (i := 63) hz0 (by decide) (by have := HZP.out; simpa using this) hzl (by decide)
              have e2 : (1 : Int) * 2 ^ 63 = 9223372036854775808 := by decide
              rw [e2] at hj
              rw [hj]
              have HS : Hid (((z.toNat + 9223372036854775808 : Nat) : Int) = z + 9223372036854775808) := Lib.hid (by omega)
              go_ret2
              rw [HE.out]
              refine ⟨?_, HCN.out, A3, c2 - 1, HRN.out⟩
              show _ = Ending.returned (.tuple #[.int .u64 ((z.toNat + 9223372036854775808 : Nat) : Int), .int .i64 0])
              rw [HS.out]
              rfl
        · by_cases hbad : 0 < k ∧ y = 0
          · obtain ⟨hk2, rfl⟩ := hbad
            have HE : Hid (R0 = (3, 0, B3)) := Lib.hid (by
              rw [← HGR.out, show 10 - k.toNat = (9 - k.toNat) + 1 by omega, grp, if_pos (.inr ⟨by omega, by have := HY.out; omega⟩)])
            go_wp2_with fail
            go_ret2
            rw [HE.out]
            exact ⟨rfl, HCN.out, A3, c2 - 1, HRN.out⟩
          · by_cases hk0' : k = 0
            · subst hk0'
              have HF : Hid (10 - ((0 : Int)).toNat = (9 - ((0 : Int)).toNat) + 1) := Lib.hid (by omega)
              have HF1 : Hid (10 - ((0 : Int) + 1).toNat = 9 - ((0 : Int)).toNat) := Lib.hid (by omega)
              have HF9 : Hid (9 - (9 - ((0 : Int)).toNat) = ((0 : Int)).toNat) := Lib.hid (by omega)
              have HNB : Hid (¬ ((9 - ((0 : Int)).toNat = 0 ∧ 1 < x) ∨ (9 - ((0 : Int)).toNat < 9 ∧ x = 0))) := Lib.hid (by have := HY.out; omega)
              obtain ⟨S, hJ, hS0, hS1, hSp, hSv⟩ := grp_num (z := z) (k := (0 : Int)) (y := y) (x := x) (by omega) (by omega) hz0 HZP.out HY.out hy0 hy1
              have HSp := Lib.hid hSp
              have HSv := Lib.hid hSv
              clear hSp hSv
              have HJ : Hid (bits BinOp.or IntKind.u64 z (y % 128) = S) := Lib.hid (by
                rw [← hJ, show (7 * (0 : Int)).toNat = 0 by decide, Int.pow_zero, Int.mul_one, IntWalk.u64_in _ (by omega)])
              clear hJ
              go_upto_region 12 with fail
              rw [HJ.out]
              clear HJ
              generalize S = S' at *
              by_cases hy4 : y < 128
              · have HE : Hid (R0 = (0, S'.toNat, B3)) := Lib.hid (by
                  rw [← HGR.out, HF.out, grp, if_neg HNB.out, if_pos (by have := HY.out; omega), HSv.out]
                  have e : x % 128 = x := by have := HY.out; omega
                  rw [e, HF9.out])
                have HS : Hid (((S'.toNat : Nat) : Int) = S') := Lib.hid (by omega)
                go_wp2_with fail
                go_ret2
                rw [HE.out]
                refine ⟨?_, HCN.out, A3, c2 - 1, HRN.out⟩
                show _ = Ending.returned (.tuple #[.int .u64 ((S'.toNat : Nat) : Int), .int .i64 0])
                rw [HS.out]
                rfl
              · have HE : Hid (grp (10 - ((0 : Int) + 1).toNat) S'.toNat B3 = R0) := Lib.hid (by
                  rw [← HGR.out, HF.out, grp, if_neg HNB.out, if_neg (by have := HY.out; omega), HSv.out, HF9.out, HF1.out])
                go_wp2_with fail
                go_roundw
                case rel => exact ⟨S', (0 : Int) + 1, A3, c2 - 1, B3, rfl, rfl, by omega, by omega, hS0, HSp.out, hS1, HE.out, HRN.out, HCN.out⟩
                case measure => simp [intOf] <;> omega
            · have hk2 : 0 < k := by omega
              have hy0' : ¬ y = 0 := fun e => hbad ⟨hk2, e⟩
              have HF : Hid (10 - (k).toNat = (9 - (k).toNat) + 1) := Lib.hid (by omega)
              have HF1 : Hid (10 - (k + 1).toNat = 9 - (k).toNat) := Lib.hid (by omega)
              have HF9 : Hid (9 - (9 - (k).toNat) = (k).toNat) := Lib.hid (by omega)
              have HNB : Hid (¬ ((9 - (k).toNat = 0 ∧ 1 < x) ∨ (9 - (k).toNat < 9 ∧ x = 0))) := Lib.hid (by have := HY.out; omega)
              obtain ⟨S, hJ, hS0, hS1, hSp, hSv⟩ := grp_num (z := z) (k := k) (y := y) (x := x) (by omega) (by omega) hz0 HZP.out HY.out hy0 hy1
              have HSp := Lib.hid hSp
              have HSv := Lib.hid hSv
              clear hSp hSv
              have HJ := Lib.hid hJ
              clear hJ
              go_upto_region 12 with fail
              rw [HJ.out]
              clear HJ
              generalize S = S' at *
              by_cases hy4 : y < 128
              · have HE : Hid (R0 = (0, S'.toNat, B3)) := Lib.hid (by
                  rw [← HGR.out, HF.out, grp, if_neg HNB.out, if_pos (by have := HY.out; omega), HSv.out]
                  have e : x % 128 = x := by have := HY.out; omega
                  rw [e, HF9.out])
                have HS : Hid (((S'.toNat : Nat) : Int) = S') := Lib.hid (by omega)
                go_wp2_with fail
                go_ret2
                rw [HE.out]
                refine ⟨?_, HCN.out, A3, c2 - 1, HRN.out⟩
                show _ = Ending.returned (.tuple #[.int .u64 ((S'.toNat : Nat) : Int), .int .i64 0])
                rw [HS.out]
                rfl
              · have HE : Hid (grp (10 - (k + 1).toNat) S'.toNat B3 = R0) := Lib.hid (by
                  rw [← HGR.out, HF.out, grp, if_neg HNB.out, if_neg (by have := HY.out; omega), HSv.out, HF9.out, HF1.out])
                go_wp2_with fail
                go_roundw
                case rel => exact ⟨S', k + 1, A3, c2 - 1, B3, rfl, rfl, by omega, by omega, hS0, HSp.out, hS1, HE.out, HRN.out, HCN.out⟩
                case measure => simp [intOf] <;> omega
    · obtain rfl : k = 10 := by omega
      have HE : Hid (R0 = (0, z.toNat, B2)) := Lib.hid (by
        rw [← HGR.out]
        rfl)
      have HS : Hid (((z.toNat : Nat) : Int) = z) := Lib.hid (by omega)
      go_wp2_with fail
      go_ret2
      rw [HE.out]
      refine ⟨?_, hC2, A2, c2, hR2⟩
      show _ = Ending.returned (.tuple #[.int .u64 ((z.toNat : Nat) : Int), .int .i64 0])
      rw [HS.out]
      rfl
end Go.Proofs.Ytpmnjojednbnpaa
