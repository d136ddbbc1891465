/-
  Layer 4, seventh part: Int, Left, Err, End, Open of the reader (laid by gen_pack7.py).
-/
import Derived.Test.YtpmnjojednbnpaaPack6
namespace Go.Proofs.Ytpmnjojednbnpaa
open Go.ChangeShapes Go.WideShapes Go.ChangeAt Go.RowKit
set_option linter.unusedVariables false
set_option linter.unusedSimpArgs false

theorem and_1 {u : Int} (h0 : 0 ≤ u) (h1 : u < 18446744073709551616) : bits BinOp.and IntKind.u64 u 1 = u % 2 := by
  rw [u64_and _ _ h0 h1 (by omega) (by omega)]
  have e : (1 : Int).toNat = 1 := rfl
  rw [e, Nat.and_one_is_mod]
  omega
theorem uz_walk {u : Int} (h0 : 0 ≤ u) (h1 : u < 18446744073709551616) : bits BinOp.xor IntKind.i64 (u / 2) (-(u % 2)) = uz u.toNat := by
  rw [i64_xor_sign (by omega) (by omega) (by omega)]
  unfold uz
  by_cases h : u % 2 = 0
  · rw [if_pos h, if_pos (by omega)]; omega
  · rw [if_neg h, if_neg (by omega)]; omega

set_option maxHeartbeats 4000000 in
set_option maxRecDepth 100000 in
theorem rint4_any (g : Nat) (A : Option Addr) (c : Nat) (B : List Nat) (er lo hi : Int) (w : World) (hR : Rdr w g A c B er) :
    Calls Try.prog 71 #[.pointer (some ⟨g, 0, none⟩), .int .i64 lo, .int .i64 hi] w fun e w' => e = .returned (.int .i64 (rdI lo hi ⟨B, er⟩).1) ∧ Chg g none w w' ∧ ∃ A' c', Rdr w' g A' c' (rdI lo hi ⟨B, er⟩).2.B (rdI lo hi ⟨B, er⟩).2.err := by
  obtain ⟨RR, hRR⟩ : ∃ RR, rdI lo hi ⟨B, er⟩ = RR := ⟨_, rfl⟩
  have HRR := Lib.hid hRR
  rw [hRR]
  clear hRR
  have hFT := rfit_any g true _ _ w hR.blk
  go_enter Try.func71, Try.ntmps71
  go_wp2_with fail
  refine hFT.mono ?_
  rintro e w1 ⟨rfl, hb⟩
  have hR1 := hR.below hb
  have hC1 : Chg g none w w1 := Chg.of_below hb
  obtain ⟨k0, k1, k2, z0, z1, z2, lg⟩ := blk_got3 hR1.blk
  clear hFT hR hb
  by_cases her : er = 0
  · subst her
    have HG := rgroups_any g A c B 0 w1 hR1
    obtain ⟨R, hRe⟩ : ∃ R, grp 10 0 B = R := ⟨_, rfl⟩
    rw [hRe] at HG
    obtain ⟨ge, gv, gr⟩ := R
    simp only at HG
    have HGE := Lib.hid hRe
    clear hRe
    obtain ⟨u, hu⟩ : ∃ u : Int, (gv : Int) = u := ⟨_, rfl⟩
    rw [hu] at HG
    have HU : Hid (gv = u.toNat) := Lib.hid (by omega)
    have HU0 : Hid (0 ≤ u) := Lib.hid (by omega)
    clear hu
    go_wp2_with fail
    refine HG.mono ?_
    rintro e w2 ⟨rfl, hC2, A2, c2, hR2⟩
    have hC := hC1.trans hC2 (.inl rfl)
    have HO := Lib.hid hR1.oct
    clear HG k0 k1 k2 z0 z1 z2 lg hC1 hC2 hR1
    by_cases hge : ge = 0
    · subst hge
      have hu0 := HU0.out
      have hu1 : u < 18446744073709551616 := by
        obtain ⟨_, _, _, _, h⟩ := vb_grp 9 0 gv B gr HO.out (Nat.le_refl _) (by simp) HGE.out
        have := HU.out
        omega
      have ha := and_1 hu0 hu1
      go_upto_region 8 with fail
      rw [uz_walk hu0 hu1]
      have HE : Hid ((if uz u.toNat < lo ∨ hi < uz u.toNat then ((0 : Int), (⟨[], 7⟩ : Rs)) else (uz u.toNat, ⟨gr, 0⟩)) = RR) := Lib.hid (by
        rw [← HRR.out]
        unfold rdI
        simp only [HGE.out, HU.out, ne_eq, not_true_eq_false, if_false])
      generalize uz u.toNat = n at *
      by_cases hn : n < lo
      · rw [if_pos (.inl hn)] at HE
        go_wp2_with fail
        refine (rfail_any g A2 c2 gr 0 7 w2 hR2).mono ?_
        rintro e w3 ⟨rfl, hR3, hC3⟩
        go_wp2_with fail
        go_ret
        rw [← HE.out]
        exact ⟨rfl, hC.trans hC3 (.inl rfl), none, 0, hR3⟩
      · by_cases hn2 : hi < n
        · rw [if_pos (.inr hn2)] at HE
          go_wp2_with fail
          refine (rfail_any g A2 c2 gr 0 7 w2 hR2).mono ?_
          rintro e w3 ⟨rfl, hR3, hC3⟩
          go_wp2_with fail
          go_ret
          rw [← HE.out]
          exact ⟨rfl, hC.trans hC3 (.inl rfl), none, 0, hR3⟩
        · have HE2 := Lib.hid (HE.out.symm.trans (if_neg (by omega)))
          go_wp2_with fail
          go_ret
          rw [HE2.out]
          exact ⟨rfl, hC, A2, c2, hR2⟩
    · have HE : Hid (RR = ((0 : Int), (⟨[], ge⟩ : Rs))) := Lib.hid (by
        rw [← HRR.out]
        unfold rdI
        simp only [HGE.out]
        rw [if_neg (by decide), if_pos hge])
      have hge1 : (ge == 0) = false := by simpa using hge
      have hge2 : (ge != 0) = true := by simpa using hge
      go_wp2_with fail
      refine (rfail_any g A2 c2 gr 0 ge w2 hR2).mono ?_
      rintro e w3 ⟨rfl, hR3, hC3⟩
      go_wp2_with fail
      go_ret
      rw [HE.out]
      exact ⟨rfl, hC.trans hC3 (.inl rfl), none, 0, hR3⟩
  · have HE : Hid (RR = ((0 : Int), (⟨B, er⟩ : Rs))) := Lib.hid (by
      rw [← HRR.out]
      unfold rdI
      simp only
      rw [if_pos her])
    have hge1 : (er == 0) = false := by simpa using her
    have hge2 : (er != 0) = true := by simpa using her
    go_wp2_with fail
    go_ret
    rw [HE.out]
    exact ⟨rfl, hC1, A, c, hR1⟩

set_option maxHeartbeats 1000000 in
set_option maxRecDepth 100000 in
theorem rleft4_any (g : Nat) (A : Option Addr) (c : Nat) (B : List Nat) (er : Int) (w : World) (hR : Rdr w g A c B er) :
    Calls Try.prog 73 #[.pointer (some ⟨g, 0, none⟩)] w fun e w' => e = .returned (.int .i64 (B.length : Nat)) ∧ Below w.heap.size w w' := by
  have hFT := rfit_any g true _ _ w hR.blk
  go_enter Try.func73, Try.ntmps73
  go_wp2_with fail
  refine hFT.mono ?_
  rintro e w1 ⟨rfl, hb⟩
  have hR1 := hR.below hb
  obtain ⟨k0, k1, k2, z0, z1, z2, lg⟩ := blk_got3 hR1.blk
  clear hFT
  go_wp2_with fail
  go_ret
  exact ⟨rfl, hb⟩
set_option maxHeartbeats 1000000 in
set_option maxRecDepth 100000 in
theorem rerr_any (g : Nat) (A : Option Addr) (c : Nat) (B : List Nat) (er : Int) (w : World) (hR : Rdr w g A c B er) :
    Calls Try.prog 72 #[.pointer (some ⟨g, 0, none⟩)] w fun e w' => e = .returned (.int .i64 er) ∧ Below w.heap.size w w' := by
  have hFT := rfit_any g true _ _ w hR.blk
  go_enter Try.func72, Try.ntmps72
  go_wp2_with fail
  refine hFT.mono ?_
  rintro e w1 ⟨rfl, hb⟩
  have hR1 := hR.below hb
  obtain ⟨k0, k1, k2, z0, z1, z2, lg⟩ := blk_got3 hR1.blk
  clear hFT
  go_wp2_with fail
  go_ret
  exact ⟨rfl, hb⟩
/-- how a reader ends -/
def endF (s : Rs) : Int := if s.err ≠ 0 then s.err else if s.B = [] then 0 else 5
set_option maxHeartbeats 1000000 in
set_option maxRecDepth 100000 in
theorem rend_any (g : Nat) (A : Option Addr) (c : Nat) (B : List Nat) (er : Int) (w : World) (hR : Rdr w g A c B er) :
    Calls Try.prog 43 #[.pointer (some ⟨g, 0, none⟩)] w fun e w' => e = .returned (.int .i64 (endF ⟨B, er⟩)) ∧ Below w.heap.size w w' := by
  have HE := Lib.hid (rerr_any g A c B er w hR)
  obtain ⟨E, hE⟩ : ∃ E, endF ⟨B, er⟩ = E := ⟨_, rfl⟩
  rw [hE]
  unfold endF at hE
  simp only at hE
  go_enter Try.func43, Try.ntmps43
  go_wp2_with fail
  refine HE.out.mono ?_
  rintro e w1 ⟨rfl, hb⟩
  have hR1 := hR.below hb
  clear HE
  by_cases her : er = 0
  · subst her
    have HL := Lib.hid (rleft4_any g A c B 0 w1 hR1)
    rw [if_neg (by decide)] at hE
    by_cases hB : B = []
    · subst hB
      rw [if_pos rfl] at hE
      subst hE
      go_wp2_with fail
      refine HL.out.mono ?_
      rintro e w2 ⟨rfl, hb2⟩
      have hB3 := since_step hb hb2
      simp only [List.length_nil]
      go_wp2_with fail
      go_ret
      exact ⟨rfl, hB3⟩
    · rw [if_neg hB] at hE
      subst hE
      have hp := List.length_pos_iff.2 hB
      go_wp2_with fail
      refine HL.out.mono ?_
      rintro e w2 ⟨rfl, hb2⟩
      have hB3 := since_step hb hb2
      generalize B.length = n at *
      go_wp2_with fail
      go_ret
      exact ⟨rfl, hB3⟩
  · rw [if_pos her] at hE
    subst hE
    have hge1 : (er == 0) = false := by simpa using her
    have hge2 : (er != 0) = true := by simpa using her
    go_wp2_with fail
    go_ret
    exact ⟨rfl, hb⟩
set_option maxHeartbeats 1000000 in
set_option maxRecDepth 100000 in
theorem ropen_any (A : Option Addr) (cap : Nat) (l : List Nat) (w : World) (hl : l.length ≤ 10000000) (ho : Oct l) (hs : Sl w A (by8 l)) :
    Calls Try.prog 70 #[.slice A l.length cap] w fun e w' => ∃ g, e = .returned (.pointer (some ⟨g, 0, none⟩)) ∧ w.heap.size ≤ g ∧ Below w.heap.size w w' ∧ ∃ A' c', Rdr w' g A' c' l 0 := by
  have HC := Lib.hid (clone8_any A cap l w hl hs)
  go_enter Try.func70, Try.ntmps70
  go_wp2_with fail
  refine HC.out.mono ?_
  rintro e w1 ⟨⟨A2, c2, rfl, own2⟩, hb⟩
  have hh := heap_alloc_new w1 (.cells #[.bool true, .slice A2 l.length c2, .int .i64 0] 129)
  go_wp2_with fail
  go_ret
  refine ⟨w1.heap.size, rfl, hb.size, since_alloc hb _, A2, c2, hh, (Sl.of_own own2).alloc _, ?_, ?_, ?_, ho⟩
  · rcases own2.2 with ⟨e, h0⟩ | ⟨g, cap, cur, e, hbg, hg, hnc, hcm, hcs, htake⟩
    · injection e with _ e2 _
      omega
    · injection e with _ _ e3
      omega
  · rcases own2.2 with ⟨e, h0⟩ | ⟨g, cap, cur, e, hbg, hg, hnc, hcm, hcs, htake⟩
    · injection e with _ _ e3
      subst e3
      decide
    · injection e with _ _ e3
      omega
  · rcases own2.2 with ⟨e, h0⟩ | ⟨g, cap, cur, e, hbg, hg, hnc, hcm, hcs, htake⟩
    · injection e with e1 e2 e3
      exact .inl ⟨e1, e3, List.eq_nil_of_length_eq_zero (by omega)⟩
    · injection e with e1 e2 e3
      exact .inr ⟨g, 0, e1, (Array.getElem?_eq_some_iff.1 hg).1⟩
/-- a reader that no call made -/
def NoR (w : World) (p : Value) : Prop := Calls Try.prog 76 #[p] w fun e w' => e = .returned (.bool false) ∧ Below w.heap.size w w'
set_option maxHeartbeats 1000000 in
set_option maxRecDepth 100000 in
theorem rint_no (p lo hi : Value) (w : World) (h : NoR w p) :
    Calls Try.prog 71 #[p, lo, hi] w fun e w' => e = .returned (.int .i64 0) ∧ Below w.heap.size w w' := by
  unfold NoR at h
  go_enter Try.func71, Try.ntmps71
  go_wp2_with fail
  refine h.mono ?_
  rintro e w1 ⟨rfl, hb⟩
  go_wp2_with fail
  go_ret
  exact ⟨rfl, hb⟩
set_option maxHeartbeats 1000000 in
set_option maxRecDepth 100000 in
theorem rleft_no (p : Value) (w : World) (h : NoR w p) :
    Calls Try.prog 73 #[p] w fun e w' => e = .returned (.int .i64 0) ∧ Below w.heap.size w w' := by
  unfold NoR at h
  go_enter Try.func73, Try.ntmps73
  go_wp2_with fail
  refine h.mono ?_
  rintro e w1 ⟨rfl, hb⟩
  go_wp2_with fail
  go_ret
  exact ⟨rfl, hb⟩
set_option maxHeartbeats 1000000 in
set_option maxRecDepth 100000 in
theorem rerr_no (p : Value) (w : World) (h : NoR w p) :
    Calls Try.prog 72 #[p] w fun e w' => e = .returned (.int .i64 1) ∧ Below w.heap.size w w' := by
  unfold NoR at h
  go_enter Try.func72, Try.ntmps72
  go_wp2_with fail
  refine h.mono ?_
  rintro e w1 ⟨rfl, hb⟩
  go_wp2_with fail
  go_ret
  exact ⟨rfl, hb⟩
set_option maxHeartbeats 1000000 in
set_option maxRecDepth 100000 in
theorem rend_no (p : Value) (w : World) (h : NoR w p) :
    Calls Try.prog 43 #[p] w fun e w' => e = .returned (.int .i64 1) ∧ Below w.heap.size w w' := by
  have HE := Lib.hid (rerr_no p w h)
  clear h
  go_enter Try.func43, Try.ntmps43
  go_wp2_with fail
  refine HE.out.mono ?_
  rintro e w1 ⟨rfl, hb⟩
  go_wp2_with fail
  go_ret
  exact ⟨rfl, hb⟩
end Go.Proofs.Ytpmnjojednbnpaa
