import Derived.Test.YtpmnjojednbnpaaGreatDoorWf03
import Derived.Laws.BitsAllLaws
import Derived.Lib.SlBytesConst
import Derived.Test.YtpmnjojednbnpaaGreatDoorWf00
set_option maxHeartbeats 16000000
set_option maxRecDepth 100000
set_option linter.unusedVariables false
set_option linter.unusedSimpArgs false
namespace Go.Proofs.YtpmnjojednbnpaaGreatDoor
open Go.ChangeShapes Go.WideShapes Go.ChangeAt Go.RowKit
section
theorem and_1 {u : Int} (h0 : 0 ≤ u) (h1 : u < 18446744073709551616) : bits BinOp.and IntKind.u64 u 1 = u % 2 := by
 rw [u64_and _ _ h0 h1 (by omega) (by omega)];have e : (1 : Int).toNat = 1 := rfl;rw [e, Nat.and_one_is_mod];omega
theorem uz_walk {u : Int} (h0 : 0 ≤ u) (h1 : u < 18446744073709551616) : bits BinOp.xor IntKind.i64 (u / 2) (-(u % 2)) = uz u.toNat := by
 rw [i64_xor_sign (by omega) (by omega) (by omega)];unfold uz
 by_cases h : u % 2 = 0
 ·rw [if_pos h, if_pos (by omega)]; omega
 ·rw [if_neg h, if_neg (by omega)]; omega
theorem rint4_any (g : Nat) (A : Option Addr) (c : Nat) (B : List Nat) (er lo hi : Int) (w : World) (hR : Rdr w g A c B er) :
  Calls Tryz.prog 106 #[.pointer (some ⟨g, 0, none⟩), .int .i64 lo, .int .i64 hi] w fun e w' => e = .returned (.int .i64 (rdI lo hi ⟨B, er⟩).1) ∧ Chg g none w w' ∧ ∃ A' c', Rdr w' g A' c' (rdI lo hi ⟨B, er⟩).2.B (rdI lo hi ⟨B, er⟩).2.err := by
 obtain ⟨RR, hRR⟩ : ∃ RR, rdI lo hi ⟨B, er⟩ = RR := ⟨_, rfl⟩;have HRR := hJz hRR;rw [hRR];clear hRR;have hFT := rfit_any g true _ _ w hR.blk;go_enter Tryz.func106, Tryz.ntmps106;go_wp2_with fail;refine hFT.mono ?_;rintro e w1 ⟨rfl, hb⟩;have hR1 := hR.below hb;have hC1 : Chg g none w w1 := Chg.of_below hb;obtain ⟨k0, k1, k2, z0, z1, z2, lg⟩ := blk_got3 hR1.blk;clear hFT hR hb
 by_cases her : er = 0
 ·subst her;have HG := rgroups_any g A c B 0 w1 hR1;obtain ⟨R, hRe⟩ : ∃ R, grp 10 0 B = R := ⟨_, rfl⟩;rw [hRe] at HG;obtain ⟨ge, gv, gr⟩ := R;simp only at HG;have HGE := hJz hRe;clear hRe;obtain ⟨u, hu⟩ : ∃ u : Int, (gv : Int) = u := ⟨_, rfl⟩;rw [hu] at HG;have HU : Hid (gv = u.toNat) := hJz (by omega);have HU0 : Hid (0 ≤ u) := hJz (by omega);clear hu;go_wp2_with fail;refine HG.mono ?_;rintro e w2 ⟨rfl, hC2, A2, c2, hR2⟩;have hC := hC1.trans hC2 (.inl rfl);have HO := hJz hR1.oct;clear HG k0 k1 k2 z0 z1 z2 lg hC1 hC2 hR1
  by_cases hge : ge = 0
  ·subst hge;have hu0 := HU0.out
   have hu1 : u < 18446744073709551616 := by
    obtain ⟨_, _, _, _, h⟩ := vb_grp 9 0 gv B gr HO.out (Nat.le_refl _) (by simp) HGE.out;have := HU.out;omega
   have ha := and_1 hu0 hu1;go_upto_region 8 with fail;rw [uz_walk hu0 hu1]
   have HE : Hid ((if uz u.toNat < lo ∨ hi < uz u.toNat then ((0 : Int), (⟨[], 7⟩ : Rs)) else (uz u.toNat, ⟨gr, 0⟩)) = RR) := hJz (by
    rw [← HRR.out];unfold rdI
    simp only [HGE.out, HU.out, ne_eq, not_true_eq_false, if_false])
   generalize uz u.toNat = n at *
   by_cases hn : n < lo
   ·rw [if_pos (.inl hn)] at HE;go_wp2_with fail;refine (rfail_any g A2 c2 gr 0 7 w2 hR2).mono ?_;rintro e w3 ⟨rfl, hR3, hC3⟩;go_wp2_with fail;go_ret;rw [← HE.out];exact ⟨rfl, hC.trans hC3 (.inl rfl), none, 0, hR3⟩
   ·by_cases hn2 : hi < n
    ·rw [if_pos (.inr hn2)] at HE;go_wp2_with fail;refine (rfail_any g A2 c2 gr 0 7 w2 hR2).mono ?_;rintro e w3 ⟨rfl, hR3, hC3⟩;go_wp2_with fail;go_ret;rw [← HE.out];exact ⟨rfl, hC.trans hC3 (.inl rfl), none, 0, hR3⟩
    ·have HE2 := hJz (HE.out.symm.trans (if_neg (by omega)));go_wp2_with fail;go_ret;rw [HE2.out];exact ⟨rfl, hC, A2, c2, hR2⟩
  ·have HE : Hid (RR = ((0 : Int), (⟨[], ge⟩ : Rs))) := hJz (by
    rw [← HRR.out];unfold rdI;simp only [HGE.out]
    rw [if_neg (by decide), if_pos hge])
   have hge1 : (ge == 0) = false := by simpa using hge
   have hge2 : (ge != 0) = true := by simpa using hge
   go_wp2_with fail;refine (rfail_any g A2 c2 gr 0 ge w2 hR2).mono ?_;rintro e w3 ⟨rfl, hR3, hC3⟩;go_wp2_with fail;go_ret;rw [HE.out];exact ⟨rfl, hC.trans hC3 (.inl rfl), none, 0, hR3⟩
 ·have HE : Hid (RR = ((0 : Int), (⟨B, er⟩ : Rs))) := hJz (by
   rw [← HRR.out];unfold rdI;simp only
   rw [if_pos her])
  have hge1 : (er == 0) = false := by simpa using her
  have hge2 : (er != 0) = true := by simpa using her
  go_wp2_with fail;go_ret;rw [HE.out];exact ⟨rfl, hC1, A, c, hR1⟩
theorem rleft4_any (g : Nat) (A : Option Addr) (c : Nat) (B : List Nat) (er : Int) (w : World) (hR : Rdr w g A c B er) :
  Calls Tryz.prog 108 #[.pointer (some ⟨g, 0, none⟩)] w fun e w' => e = .returned (.int .i64 (B.length : Nat)) ∧ Below w.heap.size w w' := by
 have hFT := rfit_any g true _ _ w hR.blk;go_enter Tryz.func108, Tryz.ntmps108;go_wp2_with fail;refine hFT.mono ?_;rintro e w1 ⟨rfl, hb⟩;have hR1 := hR.below hb;obtain ⟨k0, k1, k2, z0, z1, z2, lg⟩ := blk_got3 hR1.blk;clear hFT;go_wp2_with fail;go_ret;exact ⟨rfl, hb⟩
theorem rerr_any (g : Nat) (A : Option Addr) (c : Nat) (B : List Nat) (er : Int) (w : World) (hR : Rdr w g A c B er) :
  Calls Tryz.prog 107 #[.pointer (some ⟨g, 0, none⟩)] w fun e w' => e = .returned (.int .i64 er) ∧ Below w.heap.size w w' := by
 have hFT := rfit_any g true _ _ w hR.blk;go_enter Tryz.func107, Tryz.ntmps107;go_wp2_with fail;refine hFT.mono ?_;rintro e w1 ⟨rfl, hb⟩;have hR1 := hR.below hb;obtain ⟨k0, k1, k2, z0, z1, z2, lg⟩ := blk_got3 hR1.blk;clear hFT;go_wp2_with fail;go_ret;exact ⟨rfl, hb⟩
def endF (s : Rs) : Int := if s.err ≠ 0 then s.err else if s.B = [] then 0 else 5
theorem rend_any (g : Nat) (A : Option Addr) (c : Nat) (B : List Nat) (er : Int) (w : World) (hR : Rdr w g A c B er) :
  Calls Tryz.prog 81 #[.pointer (some ⟨g, 0, none⟩)] w fun e w' => e = .returned (.int .i64 (endF ⟨B, er⟩)) ∧ Below w.heap.size w w' := by
 have HE := hJz (rerr_any g A c B er w hR);obtain ⟨E, hE⟩ : ∃ E, endF ⟨B, er⟩ = E := ⟨_, rfl⟩;rw [hE];unfold endF at hE;simp only at hE;go_enter Tryz.func81, Tryz.ntmps81;go_wp2_with fail;refine HE.out.mono ?_;rintro e w1 ⟨rfl, hb⟩;have hR1 := hR.below hb;clear HE
 by_cases her : er = 0
 ·subst her;have HL := hJz (rleft4_any g A c B 0 w1 hR1);rw [if_neg (by decide)] at hE
  by_cases hB : B = []
  ·subst hB;rw [if_pos rfl] at hE;subst hE;go_wp2_with fail;refine HL.out.mono ?_;rintro e w2 ⟨rfl, hb2⟩;have hB3 := since_step hb hb2;simp only [List.length_nil];go_wp2_with fail;go_ret;exact ⟨rfl, hB3⟩
  ·rw [if_neg hB] at hE;subst hE;have hp := List.length_pos_iff.2 hB;go_wp2_with fail;refine HL.out.mono ?_;rintro e w2 ⟨rfl, hb2⟩;have hB3 := since_step hb hb2;generalize B.length = n at *;go_wp2_with fail;go_ret;exact ⟨rfl, hB3⟩
 ·rw [if_pos her] at hE;subst hE;have hge1 : (er == 0) = false := by simpa using her
  have hge2 : (er != 0) = true := by simpa using her
  go_wp2_with fail;go_ret;exact ⟨rfl, hb⟩
theorem ropen_any (A : Option Addr) (cap : Nat) (l : List Nat) (w : World) (hl : l.length ≤ 10000000) (ho : Oct l) (hs : Sl w A (by8 l)) :
  Calls Tryz.prog 105 #[.slice A l.length cap] w fun e w' => ∃ g, e = .returned (.pointer (some ⟨g, 0, none⟩)) ∧ w.heap.size ≤ g ∧ Below w.heap.size w w' ∧ ∃ A' c', Rdr w' g A' c' l 0 := by
 have HC := hJz (clone8_any A cap l w hl hs);go_enter Tryz.func105, Tryz.ntmps105;go_wp2_with fail;refine HC.out.mono ?_;rintro e w1 ⟨⟨A2, c2, rfl, own2⟩, hb⟩;have hh := heap_alloc_new w1 (.cells #[.bool true, .slice A2 l.length c2, .int .i64 0] 211);go_wp2_with fail;go_ret
 refine ⟨w1.heap.size, rfl, hb.size, since_alloc hb _, A2, c2, hh, (Sl.of_own own2).alloc _, ?_, ?_, ?_, ho⟩
 ·rcases own2.2 with ⟨e, h0⟩ | ⟨g, cap, cur, e, hbg, hg, hnc, hcm, hcs, htake⟩
  ·injection e with _ e2 _;omega
  ·injection e with _ _ e3;omega
 ·rcases own2.2 with ⟨e, h0⟩ | ⟨g, cap, cur, e, hbg, hg, hnc, hcm, hcs, htake⟩
  ·injection e with _ _ e3;subst e3
   decide
  ·injection e with _ _ e3;omega
 ·rcases own2.2 with ⟨e, h0⟩ | ⟨g, cap, cur, e, hbg, hg, hnc, hcm, hcs, htake⟩
  ·injection e with e1 e2 e3;exact .inl ⟨e1, e3, List.eq_nil_of_length_eq_zero (by omega)⟩
  ·injection e with e1 e2 e3;exact .inr ⟨g, 0, e1, (Array.getElem?_eq_some_iff.1 hg).1⟩
end
end Go.Proofs.YtpmnjojednbnpaaGreatDoor
section
namespace Go.Proofs.YtpmnjojednbnpaaGreatDoor.CrcM

def step (c : Nat) : Nat := if c * 2 > 16777215 then (c * 2) ^^^ 25578747 else c * 2
end Go.Proofs.YtpmnjojednbnpaaGreatDoor.CrcM
end
namespace Go.Proofs.YtpmnjojednbnpaaGreatDoor
open Go.ChangeShapes Go.WideShapes Go.ChangeAt Go.RowKit
section
def Agree (a b : List Nat) (k : Nat) : Prop := ∀ i, i < k → a[i]? = b[i]?
theorem agree_eq {a b : List Nat} (h : Agree a b a.length) (hl : a.length = b.length) : a = b := by
 apply List.ext_getElem? ; intro i
 by_cases hi : i < a.length
 ·exact h i hi
 ·rw [List.getElem?_eq_none (by omega), List.getElem?_eq_none (by omega)]
theorem same_any (A B : Option Addr) (ca cb : Nat) (a b : List Nat) (w : World) (hla : a.length ≤ maxLen) (hlb : b.length ≤ maxLen) (ha : Sl w A (by8 a)) (hb : Sl w B (by8 b)) :
  Calls Tryz.prog 53 #[.slice A a.length ca, .slice B b.length cb] w fun e w' => e = .returned (.bool (decide (a = b))) ∧ ∃ n, w' = w.drewN n := by
 unfold maxLen at hla hlb
 by_cases hne : a.length = b.length
 ·have hd : ((a.length : Int) != (b.length : Int)) = false := by rw [hne]; simp
  have HN := hJz hne;clear hne;go_enter Tryz.func53, Tryz.ntmps53
  go_wp2
  go_loopw [5] (fun i wr => ∃ k n : Nat, k ≤ a.length ∧ i = .int .i64 k ∧ Agree a b k ∧ wr = w.drewN n) (fun i _ => a.length - (intOf i).toNat)
  case atStart => exact ⟨0, 0, Nat.zero_le _, rfl, (fun i hi => absurd hi (by omega)), rfl⟩
  case round =>
   obtain ⟨k, n, hk, rfl, hag, rfl⟩ := hrel;have HA := hJz hag;clear hag
   by_cases hlt : k < a.length
   ·have hlt' : k < b.length := by have := HN.out; omega
    obtain ⟨b1, o1, rfl, hz1⟩ := ha.byte hlt;obtain ⟨b2, o2, rfl, hz2⟩ := hb.byte hlt'
    by_cases he : a[k] = b[k]
    ·have he' : ((a[k] : Int) != (b[k] : Int)) = false := by rw [he]; simp
     have HE := hJz he;clear he
     go_wp2
     go_quiet (fail)
     go_wp2
     go_roundw
     case rel =>
      refine ⟨k + 1, _, by omega, by go_num, fun i hi => ?_, rfl⟩
      by_cases hik : i = k
      ·subst hik;rw [List.getElem?_eq_getElem hlt, List.getElem?_eq_getElem hlt', HE.out]
      ·exact HA.out i (by omega)
     case measure => simp [intOf]; omega
    ·have he' : ((a[k] : Int) != (b[k] : Int)) = true := by rw [bne_iff_ne]; omega
     have hfin : decide (a = b) = false := by
      rw [decide_eq_false_iff_not];rintro rfl;exact he rfl
     have HF := hJz hfin;clear hfin he
     go_wp2
     go_quiet (fail)
     go_wp2
     go_ret;exact ⟨retB HF.out.symm, _, World.drewN_drewN _ _ _⟩
   ·obtain rfl : k = a.length := by omega
    have hfin : decide (a = b) = true := decide_eq_true (agree_eq HA.out HN.out);have HF := hJz hfin;clear hfin
    go_wp2
    go_ret;exact ⟨retB HF.out.symm, n, rfl⟩
 ·have hd : ((a.length : Int) != (b.length : Int)) = true := by rw [bne_iff_ne]; omega
  have hfin : decide (a = b) = false := by
   rw [decide_eq_false_iff_not];rintro rfl;exact hne rfl
  have HF := hJz hfin;clear hfin hne;go_enter Tryz.func53, Tryz.ntmps53
  go_wp2
  go_ret;exact ⟨retB HF.out.symm, 0, rfl⟩
end
section
theorem own_chg {w w' : World} {base e size n g : Nat} {v : Value} {row : Option Nat} {xs : List Value} (h : w.ownsRow base e size v n xs) (hC : Chg g row w w') (hg : v.ownBlock ≠ some g) (hr : ∀ b, v.ownBlock = some b → row ≠ some b) : w'.ownsRow base e size v n xs := by
 refine ⟨h.1, ?_⟩
 rcases h.2 with hn | ⟨g1, cap, cur, rfl, hb, hgg, rest⟩
 ·exact .inl hn
 ·refine .inr ⟨g1, cap, cur, rfl, hb, ?_, rest⟩;rw [hC.block g1 (Array.getElem?_eq_some_iff.1 hgg).1 (by simpa [Value.ownBlock] using hg) (fun e => hr g1 rfl e.symm)];exact hgg
structure WrS (W : Nat) (w : World) (g : Nat) (A : Option Addr) (c : Nat) (bs : List Nat) : Prop where
  wr : Wr w g A c bs
  ge : W ≤ g
  row : ∀ b, (Value.slice A bs.length c).ownBlock = some b → W ≤ b
theorem WrS.below {W : Nat} {w w' : World} {g : Nat} {A : Option Addr} {c : Nat} {bs : List Nat} (h : WrS W w g A c bs) (hb : Below w.heap.size w w') : WrS W w' g A c bs := ⟨h.wr.below hb, h.ge, h.row⟩
theorem WrS.chg {W : Nat} {w w' : World} {g r : Nat} {A : Option Addr} {c : Nat} {bs : List Nat} (h : WrS W w g A c bs) (hC : Chg r none w w') (hr : r < W) : WrS W w' g A c bs := by
 have hg := h.ge;refine ⟨⟨by rw [hC.block g h.wr.lt (by omega) (by simp)]; exact h.wr.blk, own_chg h.wr.own hC (fun e => by have := h.row r e; omega) (fun b _ e => by cases e)⟩, hg, h.row⟩
theorem wnew_S (w : World) : Calls Tryz.prog 138 #[] w fun e w' => ∃ g, e = .returned (.pointer (some ⟨g, 0, none⟩)) ∧ WrS w.heap.size w' g none 0 [] ∧ Below w.heap.size w w' := by
 refine (wnew_any w).mono ?_;rintro e w' ⟨rfl, hw, rfl⟩;exact ⟨_, rfl, ⟨hw, Nat.le_refl _, fun b hb => by simp [Value.ownBlock] at hb⟩, since_alloc (Below.refl _ _) _⟩
end
end Go.Proofs.YtpmnjojednbnpaaGreatDoor
