import Derived.Test.YtpmnjojednbnpaaCr03
import Derived.Laws.BitsAllLaws
import Derived.Test.YtpmnjojednbnpaaCr00
import Derived.Lib.SlBytesConst
import Derived.Test.YtpmnjojednbnpaaCr01
section
namespace Go.Proofs.Ytpmnjojednbnpaa
open Go.ChangeShapes Go.WideShapes Go.ChangeAt Go.RowKit
set_option linter.unusedVariables false
set_option linter.unusedSimpArgs false

theorem and_1 {u : Int} (h0 : 0 ≤ u) (h1 : u < 18446744073709551616) : bits BinOp.and IntKind.u64 u 1 = u % 2 := by
  rw [u64_and _ _ h0 h1 (by omega) (by omega)]
  have e : (1 : Int).toNat = 1 := rfl
  rw [e, Nat.and_one_is_mod]
  omega
theorem uz_walk {u : Int} (h0 : 0 ≤ u) (h1 : u < 18446744073709551616) : bits BinOp.xor IntKind.i64 (u / 2) (-(u % 2)) = uz u.toNat := by
  rw [i64_xor_sign (by omega) (by omega) (by omega)]
  unfold uz
  by_cases h : u % 2 = 0
  · rw [if_pos h, if_pos (by omega)]; omega
  · rw [if_neg h, if_neg (by omega)]; omega
set_option maxHeartbeats 4000000 in
set_option maxRecDepth 100000 in
theorem rint4_any (g : Nat) (A : Option Addr) (c : Nat) (B : List Nat) (er lo hi : Int) (w : World) (hR : Rdr w g A c B er) :
    Calls Try.prog 71 #[.pointer (some ⟨g, 0, none⟩), .int .i64 lo, .int .i64 hi] w fun e w' => e = .returned (.int .i64 (rdI lo hi ⟨B, er⟩).1) ∧ Chg g none w w' ∧ ∃ A' c', Rdr w' g A' c' (rdI lo hi ⟨B, er⟩).2.B (rdI lo hi ⟨B, er⟩).2.err := by
  obtain ⟨RR, hRR⟩ : ∃ RR, rdI lo hi ⟨B, er⟩ = RR := ⟨_, rfl⟩
  have HRR := Lib.hid hRR
  rw [hRR]
  clear hRR
  have hFT := rfit_any g true _ _ w hR.blk
  go_enter Try.func71, Try.ntmps71
  go_wp2_with fail
  refine hFT.mono ?_
  rintro e w1 ⟨rfl, hb⟩
  have hR1 := hR.below hb
  have hC1 : Chg g none w w1 := Chg.of_below hb
  obtain ⟨k0, k1, k2, z0, z1, z2, lg⟩ := blk_got3 hR1.blk
  clear hFT hR hb
  by_cases her : er = 0
  · subst her
    have HG := rgroups_any g A c B 0 w1 hR1
    obtain ⟨R, hRe⟩ : ∃ R, grp 10 0 B = R := ⟨_, rfl⟩
    rw [hRe] at HG
    obtain ⟨ge, gv, gr⟩ := R
    simp only at HG
    have HGE := Lib.hid hRe
    clear hRe
    obtain ⟨u, hu⟩ : ∃ u : Int, (gv : Int) = u := ⟨_, rfl⟩
    rw [hu] at HG
    have HU : Hid (gv = u.toNat) := Lib.hid (by omega)
    have HU0 : Hid (0 ≤ u) := Lib.hid (by omega)
    clear hu
    go_wp2_with fail
    refine HG.mono ?_
    rintro e w2 ⟨rfl, hC2, A2, c2, hR2⟩
    have hC := hC1.trans hC2 (.inl rfl)
    have HO := Lib.hid hR1.oct
    clear HG k0 k1 k2 z0 z1 z2 lg hC1 hC2 hR1
    by_cases hge : ge = 0
    · subst hge
      have hu0 := HU0.out
      have hu1 : u < 18446744073709551616 := by
        obtain ⟨_, _, _, _, h⟩ := vb_grp 9 0 gv B gr HO.out (Nat.le_refl _) (by simp) HGE.out
        have := HU.out
        omega
      have ha := and_1 hu0 hu1
      go_upto_region 8 with fail
      rw [uz_walk hu0 hu1]
      have HE : Hid ((if uz u.toNat < lo ∨ hi < uz u.toNat then ((0 : Int), (⟨[], 7⟩ : Rs)) else (uz u.toNat, ⟨gr, 0⟩)) = RR) := Lib.hid (by
        rw [← HRR.out]
        unfold rdI
        simp only [HGE.out, HU.out, ne_eq, not_true_eq_false, if_false])
      generalize uz u.toNat = n at *
      by_cases hn : n < lo
      · rw [if_pos (.inl hn)] at HE
        go_wp2_with fail
        refine (rfail_any g A2 c2 gr 0 7 w2 hR2).mono ?_
        rintro e w3 ⟨rfl, hR3, hC3⟩
        go_wp2_with fail
        go_ret
        rw [← HE.out]
        exact ⟨rfl, hC.trans hC3 (.inl rfl), none, 0, hR3⟩
      · by_cases hn2 : hi < n
        · rw [if_pos (.inr hn2)] at HE
          go_wp2_with fail
          refine (rfail_any g A2 c2 gr 0 7 w2 hR2).mono ?_
          rintro e w3 ⟨rfl, hR3, hC3⟩
          go_wp2_with fail
          go_ret
          rw [← HE.out]
          exact ⟨rfl, hC.trans hC3 (.inl rfl), none, 0, hR3⟩
        · have HE2 := Lib.hid (HE.out.symm.trans (if_neg (by omega)))
          go_wp2_with fail
          go_ret
          rw [HE2.out]
          exact ⟨rfl, hC, A2, c2, hR2⟩
    · have HE : Hid (RR = ((0 : Int), (⟨[], ge⟩ : Rs))) := Lib.hid (by
        rw [← HRR.out]
        unfold rdI
        simp only [HGE.out]
        rw [if_neg (by decide), if_pos hge])
      have hge1 : (ge == 0) = false := by simpa using hge
      have hge2 : (ge != 0) = true := by simpa using hge
      go_wp2_with fail
      refine (rfail_any g A2 c2 gr 0 ge w2 hR2).mono ?_
      rintro e w3 ⟨rfl, hR3, hC3⟩
      go_wp2_with fail
      go_ret
      rw [HE.out]
      exact ⟨rfl, hC.trans hC3 (.inl rfl), none, 0, hR3⟩
  · have HE : Hid (RR = ((0 : Int), (⟨B, er⟩ : Rs))) := Lib.hid (by
      rw [← HRR.out]
      unfold rdI
      simp only
      rw [if_pos her])
    have hge1 : (er == 0) = false := by simpa using her
    have hge2 : (er != 0) = true := by simpa using her
    go_wp2_with fail
    go_ret
    rw [HE.out]
    exact ⟨rfl, hC1, A, c, hR1⟩
set_option maxHeartbeats 1000000 in
set_option maxRecDepth 100000 in
theorem rleft4_any (g : Nat) (A : Option Addr) (c : Nat) (B : List Nat) (er : Int) (w : World) (hR : Rdr w g A c B er) :
    Calls Try.prog 73 #[.pointer (some ⟨g, 0, none⟩)] w fun e w' => e = .returned (.int .i64 (B.length : Nat)) ∧ Below w.heap.size w w' := by
  have hFT := rfit_any g true _ _ w hR.blk
  go_enter Try.func73, Try.ntmps73
  go_wp2_with fail
  refine hFT.mono ?_
  rintro e w1 ⟨rfl, hb⟩
  have hR1 := hR.below hb
  obtain ⟨k0, k1, k2, z0, z1, z2, lg⟩ := blk_got3 hR1.blk
  clear hFT
  go_wp2_with fail
  go_ret
  exact ⟨rfl, hb⟩
set_option maxHeartbeats 1000000 in
set_option maxRecDepth 100000 in
theorem rerr_any (g : Nat) (A : Option Addr) (c : Nat) (B : List Nat) (er : Int) (w : World) (hR : Rdr w g A c B er) :
    Calls Try.prog 72 #[.pointer (some ⟨g, 0, none⟩)] w fun e w' => e = .returned (.int .i64 er) ∧ Below w.heap.size w w' := by
  have hFT := rfit_any g true _ _ w hR.blk
  go_enter Try.func72, Try.ntmps72
  go_wp2_with fail
  refine hFT.mono ?_
  rintro e w1 ⟨rfl, hb⟩
  have hR1 := hR.below hb
  obtain ⟨k0, k1, k2, z0, z1, z2, lg⟩ := blk_got3 hR1.blk
  clear hFT
  go_wp2_with fail
  go_ret
  exact ⟨rfl, hb⟩
def endF (s : Rs) : Int := if s.err ≠ 0 then s.err else if s.B = [] then 0 else 5
set_option maxHeartbeats 1000000 in
set_option maxRecDepth 100000 in
theorem rend_any (g : Nat) (A : Option Addr) (c : Nat) (B : List Nat) (er : Int) (w : World) (hR : Rdr w g A c B er) :
    Calls Try.prog 43 #[.pointer (some ⟨g, 0, none⟩)] w fun e w' => e = .returned (.int .i64 (endF ⟨B, er⟩)) ∧ Below w.heap.size w w' := by
  have HE := Lib.hid (rerr_any g A c B er w hR)
  obtain ⟨E, hE⟩ : ∃ E, endF ⟨B, er⟩ = E := ⟨_, rfl⟩
  rw [hE]
  unfold endF at hE
  simp only at hE
  go_enter Try.func43, Try.ntmps43
  go_wp2_with fail
  refine HE.out.mono ?_
  rintro e w1 ⟨rfl, hb⟩
  have hR1 := hR.below hb
  clear HE
  by_cases her : er = 0
  · subst her
    have HL := Lib.hid (rleft4_any g A c B 0 w1 hR1)
    rw [if_neg (by decide)] at hE
    by_cases hB : B = []
    · subst hB
      rw [if_pos rfl] at hE
      subst hE
      go_wp2_with fail
      refine HL.out.mono ?_
      rintro e w2 ⟨rfl, hb2⟩
      have hB3 := since_step hb hb2
      simp only [List.length_nil]
      go_wp2_with fail
      go_ret
      exact ⟨rfl, hB3⟩
    · rw [if_neg hB] at hE
      subst hE
      have hp := List.length_pos_iff.2 hB
      go_wp2_with fail
      refine HL.out.mono ?_
      rintro e w2 ⟨rfl, hb2⟩
      have hB3 := since_step hb hb2
      generalize B.length = n at *
      go_wp2_with fail
      go_ret
      exact ⟨rfl, hB3⟩
  · rw [if_pos her] at hE
    subst hE
    have hge1 : (er == 0) = false := by simpa using her
    have hge2 : (er != 0) = true := by simpa using her
    go_wp2_with fail
    go_ret
    exact ⟨rfl, hb⟩
set_option maxHeartbeats 1000000 in
set_option maxRecDepth 100000 in
theorem ropen_any (A : Option Addr) (cap : Nat) (l : List Nat) (w : World) (hl : l.length ≤ 10000000) (ho : Oct l) (hs : Sl w A (by8 l)) :
    Calls Try.prog 70 #[.slice A l.length cap] w fun e w' => ∃ g, e = .returned (.pointer (some ⟨g, 0, none⟩)) ∧ w.heap.size ≤ g ∧ Below w.heap.size w w' ∧ ∃ A' c', Rdr w' g A' c' l 0 := by
  have HC := Lib.hid (clone8_any A cap l w hl hs)
  go_enter Try.func70, Try.ntmps70
  go_wp2_with fail
  refine HC.out.mono ?_
  rintro e w1 ⟨⟨A2, c2, rfl, own2⟩, hb⟩
  have hh := heap_alloc_new w1 (.cells #[.bool true, .slice A2 l.length c2, .int .i64 0] 129)
  go_wp2_with fail
  go_ret
  refine ⟨w1.heap.size, rfl, hb.size, since_alloc hb _, A2, c2, hh, (Sl.of_own own2).alloc _, ?_, ?_, ?_, ho⟩
  · rcases own2.2 with ⟨e, h0⟩ | ⟨g, cap, cur, e, hbg, hg, hnc, hcm, hcs, htake⟩
    · injection e with _ e2 _
      omega
    · injection e with _ _ e3
      omega
  · rcases own2.2 with ⟨e, h0⟩ | ⟨g, cap, cur, e, hbg, hg, hnc, hcm, hcs, htake⟩
    · injection e with _ _ e3
      subst e3
      decide
    · injection e with _ _ e3
      omega
  · rcases own2.2 with ⟨e, h0⟩ | ⟨g, cap, cur, e, hbg, hg, hnc, hcm, hcs, htake⟩
    · injection e with e1 e2 e3
      exact .inl ⟨e1, e3, List.eq_nil_of_length_eq_zero (by omega)⟩
    · injection e with e1 e2 e3
      exact .inr ⟨g, 0, e1, (Array.getElem?_eq_some_iff.1 hg).1⟩
end Go.Proofs.Ytpmnjojednbnpaa
end
section
namespace Go.Proofs.Ytpmnjojednbnpaa.CrcM
set_option linter.unusedVariables false

def step (c : Nat) : Nat := if c * 2 > 16777215 then (c * 2) ^^^ 25578747 else c * 2
end Go.Proofs.Ytpmnjojednbnpaa.CrcM
end
section
namespace Go.Proofs.Ytpmnjojednbnpaa
open Go.ChangeShapes Go.WideShapes Go.ChangeAt Go.RowKit
set_option linter.unusedVariables false

theorem cut_any (A : Option Addr) (n cap k : Nat) (w : World) (hn : n ≤ 9223372036854775807) (hk : k ≤ 9223372036854775807) (hcap : n ≤ cap) (hcap2 : cap ≤ 9223372036854775807) :
    Calls Try.prog 15 #[.slice A n cap, .int .i64 k] w fun e w' => e = .returned (.slice A (min n k) cap) ∧ w = w' := by
  by_cases h : k < n
  · have e : min n k = k := by omega
    rw [e]
    clear e
    go_enter Try.func15, Try.ntmps15
    go_wp2
    go_ret
    exact ⟨rfl, rfl⟩
  · have e : min n k = n := by omega
    rw [e]
    clear e
    go_enter Try.func15, Try.ntmps15
    go_wp2
    go_ret
    exact ⟨rfl, rfl⟩
end Go.Proofs.Ytpmnjojednbnpaa
end
section
namespace Go.Proofs.Ytpmnjojednbnpaa
open Go.ChangeShapes Go.WideShapes Go.ChangeAt Go.RowKit
set_option linter.unusedVariables false


def Agree (a b : List Nat) (k : Nat) : Prop := ∀ i, i < k → a[i]? = b[i]?
theorem agree_eq {a b : List Nat} (h : Agree a b a.length) (hl : a.length = b.length) : a = b := by
  apply List.ext_getElem? ; intro i
  by_cases hi : i < a.length
  · exact h i hi
  · rw [List.getElem?_eq_none (by omega), List.getElem?_eq_none (by omega)]
set_option maxHeartbeats 400000 in
theorem same_any (A B : Option Addr) (ca cb : Nat) (a b : List Nat) (w : World) (hla : a.length ≤ maxLen) (hlb : b.length ≤ maxLen) (ha : Sl w A (by8 a)) (hb : Sl w B (by8 b)) :
    Calls Try.prog 9 #[.slice A a.length ca, .slice B b.length cb] w fun e w' => e = .returned (.bool (decide (a = b))) ∧ ∃ n, w' = w.drewN n := by
  unfold maxLen at hla hlb
  by_cases hne : a.length = b.length
  · have hd : ((a.length : Int) != (b.length : Int)) = false := by rw [hne]; simp
    have HN := Lib.hid hne
    clear hne
    go_enter Try.func9, Try.ntmps9
    go_wp2
    go_loopw [5] (fun i wr => ∃ k n : Nat, k ≤ a.length ∧ i = .int .i64 k ∧ Agree a b k ∧ wr = w.drewN n) (fun i _ => a.length - (intOf i).toNat)
    case atStart => exact ⟨0, 0, Nat.zero_le _, rfl, (fun i hi => absurd hi (by omega)), rfl⟩
    case round =>
      obtain ⟨k, n, hk, rfl, hag, rfl⟩ := hrel
      have HA := Lib.hid hag
      clear hag
      by_cases hlt : k < a.length
      · have hlt' : k < b.length := by have := HN.out; omega
        obtain ⟨b1, o1, rfl, hz1⟩ := ha.byte hlt
        obtain ⟨b2, o2, rfl, hz2⟩ := hb.byte hlt'
        by_cases he : a[k] = b[k]
        · have he' : ((a[k] : Int) != (b[k] : Int)) = false := by rw [he]; simp
          have HE := Lib.hid he
          clear he
          go_wp2
          go_quiet (fail)
          go_wp2
          go_roundw
          case rel =>
            refine ⟨k + 1, _, by omega, by go_num, fun i hi => ?_, rfl⟩
            by_cases hik : i = k
            · subst hik
              rw [List.getElem?_eq_getElem hlt, List.getElem?_eq_getElem hlt', HE.out]
            · exact HA.out i (by omega)
          case measure => simp [intOf]; omega
        · have he' : ((a[k] : Int) != (b[k] : Int)) = true := by rw [bne_iff_ne]; omega
          have hfin : decide (a = b) = false := by
            rw [decide_eq_false_iff_not]
            rintro rfl
            exact he rfl
          have HF := Lib.hid hfin
          clear hfin he
          go_wp2
          go_quiet (fail)
          go_wp2
          go_ret
          exact ⟨retB HF.out.symm, _, World.drewN_drewN _ _ _⟩
      · obtain rfl : k = a.length := by omega
        have hfin : decide (a = b) = true := decide_eq_true (agree_eq HA.out HN.out)
        have HF := Lib.hid hfin
        clear hfin
        go_wp2
        go_ret
        exact ⟨retB HF.out.symm, n, rfl⟩
  · have hd : ((a.length : Int) != (b.length : Int)) = true := by rw [bne_iff_ne]; omega
    have hfin : decide (a = b) = false := by
      rw [decide_eq_false_iff_not]
      rintro rfl
      exact hne rfl
    have HF := Lib.hid hfin
    clear hfin hne
    go_enter Try.func9, Try.ntmps9
    go_wp2
    go_ret
    exact ⟨retB HF.out.symm, 0, rfl⟩
end Go.Proofs.Ytpmnjojednbnpaa
end
section
namespace Go.Proofs.Ytpmnjojednbnpaa
open Go.ChangeShapes Go.WideShapes Go.ChangeAt Go.RowKit
set_option linter.unusedVariables false
set_option linter.unusedSimpArgs false

theorem own_chg {w w' : World} {base e size n g : Nat} {v : Value} {row : Option Nat} {xs : List Value} (h : w.ownsRow base e size v n xs) (hC : Chg g row w w') (hg : v.ownBlock ≠ some g) (hr : ∀ b, v.ownBlock = some b → row ≠ some b) : w'.ownsRow base e size v n xs := by
  refine ⟨h.1, ?_⟩
  rcases h.2 with hn | ⟨g1, cap, cur, rfl, hb, hgg, rest⟩
  · exact .inl hn
  · refine .inr ⟨g1, cap, cur, rfl, hb, ?_, rest⟩
    rw [hC.block g1 (Array.getElem?_eq_some_iff.1 hgg).1 (by simpa [Value.ownBlock] using hg) (fun e => hr g1 rfl e.symm)]
    exact hgg
structure WrS (W : Nat) (w : World) (g : Nat) (A : Option Addr) (c : Nat) (bs : List Nat) : Prop where
  wr : Wr w g A c bs
  ge : W ≤ g
  row : ∀ b, (Value.slice A bs.length c).ownBlock = some b → W ≤ b
theorem WrS.below {W : Nat} {w w' : World} {g : Nat} {A : Option Addr} {c : Nat} {bs : List Nat} (h : WrS W w g A c bs) (hb : Below w.heap.size w w') : WrS W w' g A c bs := ⟨h.wr.below hb, h.ge, h.row⟩
theorem WrS.chg {W : Nat} {w w' : World} {g r : Nat} {A : Option Addr} {c : Nat} {bs : List Nat} (h : WrS W w g A c bs) (hC : Chg r none w w') (hr : r < W) : WrS W w' g A c bs := by
  have hg := h.ge
  refine ⟨⟨by rw [hC.block g h.wr.lt (by omega) (by simp)]; exact h.wr.blk, own_chg h.wr.own hC (fun e => by have := h.row r e; omega) (fun b _ e => by cases e)⟩, hg, h.row⟩
theorem wnew_S (w : World) : Calls Try.prog 66 #[] w fun e w' => ∃ g, e = .returned (.pointer (some ⟨g, 0, none⟩)) ∧ WrS w.heap.size w' g none 0 [] ∧ Below w.heap.size w w' := by
  refine (wnew_any w).mono ?_
  rintro e w' ⟨rfl, hw, rfl⟩
  exact ⟨_, rfl, ⟨hw, Nat.le_refl _, fun b hb => by simp [Value.ownBlock] at hb⟩, since_alloc (Below.refl _ _) _⟩
end Go.Proofs.Ytpmnjojednbnpaa
end
section
namespace Go.Proofs.Ytpmnjojednbnpaa
open Go.ChangeShapes Go.WideShapes Go.ChangeAt Go.RowKit
set_option linter.unusedVariables false
set_option linter.unusedSimpArgs false

def fldL (op : Int) : List Nat :=
  if op = 1 ∨ op = 6 ∨ op = 21 then [77, 81] else if op = 2 then [73, 81, 80, 78] else if op = 3 then [65, 80, 81] else if op = 4 then [85, 77, 68]
  else if op = 5 ∨ op = 22 ∨ (26 ≤ op ∧ op ≤ 29) then [85] else if op = 7 ∨ op = 8 ∨ op = 24 then [85, 79, 73, 81, 80] else if 9 ≤ op ∧ op ≤ 11 then [68]
  else if op = 12 then [85, 73, 78] else if op = 13 then [68, 79, 81] else if op = 14 then [73, 80] else if op = 15 then [65, 80] else if op = 17 ∨ op = 18 then [85, 65, 84, 81]
  else if op = 19 ∨ op = 20 then [85, 79] else if op = 23 ∨ op = 25 ∨ op = 31 then [77] else []
def slotL (f : Nat) : List (Nat × Int) :=
  if f = 77 then [(2, 8)] else if f = 85 then [(3, 16), (4, 16)] else if f = 79 then [(5, 16), (6, 16)] else if f = 73 then [(7, 8)] else if f = 65 then [(8, 4)]
  else if f = 84 then [(9, 255)] else if f = 68 then [(10, 1048576)] else if f = 81 then [(11, -1)] else if f = 80 then [(12, -1)] else []
def fitS (z : List Int) (s : Nat × Int) : Bool := decide (s.2 < 0 ∨ (0 ≤ z.getD s.1 0 ∧ z.getD s.1 0 ≤ s.2))
def stpZ : List (Nat × Int) → List Int → Bool × List Int
  | [], z => (true, z)
  | s :: r, z => (fitS z s && (stpZ r (z.set s.1 0)).1, (stpZ r (z.set s.1 0)).2)
def chkZ : List Nat → List Int → Bool × List Int
  | [], z => (true, z)
  | f :: r, z => ((stpZ (slotL f) z).1 && (chkZ r (stpZ (slotL f) z).2).1, (chkZ r (stpZ (slotL f) z).2).2)
def sing : List Nat := [77, 85, 79, 73, 65, 84, 68, 81, 80]
def zeroZ (z : List Int) : Bool := sing.all fun f => (slotL f).all fun s => decide (z.getD s.1 0 = 0)
def okZ (z : List Int) (n : Nat) : Bool :=
  decide (1 ≤ z.getD 0 0 ∧ z.getD 0 0 ≤ 31 ∧ 0 ≤ z.getD 1 0 ∧ z.getD 1 0 ≤ 8 ∧ n ≤ 32) && (chkZ (fldL (z.getD 0 0)) z).1 && zeroZ (chkZ (fldL (z.getD 0 0)) z).2 && (decide (n = 0) || (fldL (z.getD 0 0)).contains 78)
def wthI (n t : Int) (b : Bool) : Bool := decide (n = 0) || (b && decide (0 < n ∧ n ≤ t))
def isZ (z : List Int) (n : Nat) : Bool :=
  let f := fldL (z.getD 0 0)
  decide (1 ≤ z.getD 0 0 ∧ z.getD 0 0 ≤ 31 ∧ 0 ≤ z.getD 1 0 ∧ z.getD 1 0 ≤ 8) &&
  (wthI (z.getD 2 0) 8 (f.contains 77) && wthI (z.getD 7 0) 8 (f.contains 73) && wthI (z.getD 8 0) 4 (f.contains 65) && wthI (z.getD 9 0) 255 (f.contains 84) && wthI (z.getD 10 0) 1048576 (f.contains 68)) &&
  (wthI (z.getD 3 0) 16 (f.contains 85) && wthI (z.getD 4 0) 16 (f.contains 85) && wthI (z.getD 5 0) 16 (f.contains 79) && wthI (z.getD 6 0) 16 (f.contains 79)) &&
  ((decide (z.getD 11 0 = 0) || f.contains 81) && (decide (z.getD 12 0 = 0) || f.contains 80)) &&
  (decide (n = 0) || (f.contains 78 && decide (n ≤ 32)))
def encV (z nums : List Int) (f : Nat) : List Int := if f = 78 then (nums.length : Int) :: nums else (slotL f).map fun s => z.getD s.1 0
def encC (z nums : List Int) : List Int := z.getD 0 0 :: z.getD 1 0 :: (fldL (z.getD 0 0)).flatMap (encV z nums)
def rdM (s : Rs) : Int × Rs := rdI (-9223372036854775808) 9223372036854775807 s
def rdS : List (Nat × Int) → List Int → Rs → List Int × Rs
  | [], z, s => (z, s)
  | p :: r, z, s => rdS r (z.set p.1 (rdM s).1) (rdM s).2
def rdNs : Nat → Rs → List Int × Rs
  | 0, s => ([], s)
  | k + 1, s => ((rdM s).1 :: (rdNs k (rdM s).2).1, (rdNs k (rdM s).2).2)
structure Dc where
  z : List Int
  nums : List Int
  s : Rs
def rdF1 (f : Nat) (d : Dc) : Dc := if f = 78 then ⟨d.z, (rdNs (rdI 0 32 d.s).1.toNat (rdI 0 32 d.s).2).1, (rdNs (rdI 0 32 d.s).1.toNat (rdI 0 32 d.s).2).2⟩ else ⟨(rdS (slotL f) d.z d.s).1, d.nums, (rdS (slotL f) d.z d.s).2⟩
def rdF (l : List Nat) (d : Dc) : Dc := l.foldl (fun d f => rdF1 f d) d
def decC (bs : List Nat) : Dc := rdF (fldL (rdM ⟨bs, 0⟩).1) ⟨[(rdM ⟨bs, 0⟩).1, (rdM (rdM ⟨bs, 0⟩).2).1, 0, 0, 0, 0, 0, 0, 0, 0, 0, 0, 0], [], (rdM (rdM ⟨bs, 0⟩).2).2⟩
theorem rdM_pack {n : Int} (h : In64p n) (r : List Nat) : rdM ⟨packI n ++ r, 0⟩ = (n, ⟨r, 0⟩) := rdI_pack h h.1 h.2 r
theorem rdM_pack1 {n : Int} (h : In64p n) : rdM ⟨packI n, 0⟩ = (n, ⟨[], 0⟩) := by
  have := rdM_pack h []
  rwa [List.append_nil] at this
theorem rdNs_pack : ∀ (l : List Int), (∀ x ∈ l, In64p x) → ∀ r, rdNs l.length ⟨packL l ++ r, 0⟩ = (l, ⟨r, 0⟩)
  | [], _, r => by simp [rdNs, packL]
  | x :: l, h, r => by
    have e := rdNs_pack l (fun y hy => h y (by simp [hy])) r
    have e2 := rdM_pack (h x (by simp)) (packL l ++ r)
    rw [packL_cons, List.append_assoc, List.length_cons, rdNs, e2, e]
set_option maxHeartbeats 4000000 in
theorem dec_encE (z0 z1 z2 z3 z4 z5 z6 z7 z8 z9 z10 z11 z12 : Int) (nums : List Int) (hn : ∀ x ∈ nums, In64p x)
    (h0 : In64p z0) (h1 : In64p z1) (h2 : In64p z2) (h3 : In64p z3) (h4 : In64p z4) (h5 : In64p z5) (h6 : In64p z6) (h7 : In64p z7) (h8 : In64p z8) (h9 : In64p z9) (h10 : In64p z10) (h11 : In64p z11) (h12 : In64p z12)
    (h : isZ [z0, z1, z2, z3, z4, z5, z6, z7, z8, z9, z10, z11, z12] nums.length = true) :
    decC (packL (encC [z0, z1, z2, z3, z4, z5, z6, z7, z8, z9, z10, z11, z12] nums)) = ⟨[z0, z1, z2, z3, z4, z5, z6, z7, z8, z9, z10, z11, z12], nums, ⟨[], 0⟩⟩ := by
  have hop : 1 ≤ z0 ∧ z0 ≤ 31 := by
    simp only [isZ, Bool.and_eq_true, decide_eq_true_eq] at h
    exact ⟨h.1.1.1.1.1, h.1.1.1.1.2.1⟩
  have hq : z0 = 1 ∨ z0 = 2 ∨ z0 = 3 ∨ z0 = 4 ∨ z0 = 5 ∨ z0 = 6 ∨ z0 = 7 ∨ z0 = 8 ∨ z0 = 9 ∨ z0 = 10 ∨ z0 = 11 ∨ z0 = 12 ∨ z0 = 13 ∨ z0 = 14 ∨ z0 = 15 ∨ z0 = 16 ∨ z0 = 17 ∨ z0 = 18 ∨ z0 = 19 ∨ z0 = 20 ∨ z0 = 21 ∨ z0 = 22 ∨ z0 = 23 ∨ z0 = 24 ∨ z0 = 25 ∨ z0 = 26 ∨ z0 = 27 ∨ z0 = 28 ∨ z0 = 29 ∨ z0 = 30 ∨ z0 = 31 := by omega
  clear hop
  have hNP : ∀ r, rdNs nums.length ⟨packL nums ++ r, 0⟩ = (nums, ⟨r, 0⟩) := rdNs_pack nums hn
  have hNL : nums.length ≤ 32 → ∀ r, rdI 0 32 ⟨packI (nums.length : Int) ++ r, 0⟩ = ((nums.length : Int), ⟨r, 0⟩) := fun hl r => rdI_pack (by unfold In64p; omega) (by omega) (by omega) r
  have hNP1 : rdNs nums.length ⟨packL nums, 0⟩ = (nums, ⟨[], 0⟩) := by
    have := hNP []
    rwa [List.append_nil] at this
  have hN0 : packL [] = [] := rfl
  rcases hq with rfl | rfl | rfl | rfl | rfl | rfl | rfl | rfl | rfl | rfl | rfl | rfl | rfl | rfl | rfl | rfl | rfl | rfl | rfl | rfl | rfl | rfl | rfl | rfl | rfl | rfl | rfl | rfl | rfl | rfl | rfl
  all_goals
    simp [isZ, wthI, fldL] at h
    have hl : nums.length ≤ 32 := by
      first
        | (have := h.2; subst this; exact Nat.zero_le _)
        | (rcases h.2 with h | h <;> first | (subst h; exact Nat.zero_le _) | exact h)
    have hNI := hNL hl
    try rw [h.2] at hNI hNP hNP1 hn ⊢
    simp [decC, encC, fldL, encV, slotL, packL_cons, List.append_assoc, rdM_pack, rdM_pack1, hN0, rdF, rdF1, rdS, *]
theorem rdM_err {s : Rs} (h : s.err ≠ 0) : (rdM s).2.err ≠ 0 := by
  unfold rdM rdI
  rw [if_pos h]
  exact h
theorem rdM_oct {s : Rs} (h : ∀ c ∈ s.B, c < 256) (h0 : s.err = 0) (he : (rdM s).2.err = 0) : s.B = packI (rdM s).1 ++ (rdM s).2.B ∧ In64p (rdM s).1 ∧ ∀ c ∈ (rdM s).2.B, c < 256 := by
  obtain ⟨h1, h2, _⟩ := rdI_back (lo := -9223372036854775808) (hi := 9223372036854775807) h (n := (rdM s).1) (s' := (rdM s).2) rfl he h0
  refine ⟨h1, h2, fun c hc => h c ?_⟩
  rw [h1]
  exact List.mem_append_right _ hc
theorem rdI_within {lo hi : Int} (s : Rs) (h1 : lo ≤ 0) (h2 : 0 ≤ hi) : lo ≤ (rdI lo hi s).1 ∧ (rdI lo hi s).1 ≤ hi := by
  unfold rdI
  split
  · exact ⟨h1, h2⟩
  · split
    · exact ⟨h1, h2⟩
    · split
      · exact ⟨h1, h2⟩
      · simp only; omega
theorem rdM_in (s : Rs) : In64p (rdM s).1 := rdI_within s (by decide) (by decide)
theorem rdS_err : ∀ (l : List (Nat × Int)) (z : List Int) (s : Rs), s.err ≠ 0 → (rdS l z s).2.err ≠ 0
  | [], _, _, h => h
  | _ :: r, _, _, h => rdS_err r _ _ (rdM_err h)
theorem fldL_cases (op : Int) : fldL op = [77, 81] ∨ fldL op = [73, 81, 80, 78] ∨ fldL op = [65, 80, 81] ∨ fldL op = [85, 77, 68] ∨ fldL op = [85] ∨ fldL op = [85, 79, 73, 81, 80] ∨ fldL op = [68] ∨ fldL op = [85, 73, 78] ∨ fldL op = [68, 79, 81] ∨ fldL op = [73, 80] ∨ fldL op = [65, 80] ∨ fldL op = [85, 65, 84, 81] ∨ fldL op = [85, 79] ∨ fldL op = [77] ∨ fldL op = [] := by
  have aux : ∀ {p : Prop} [Decidable p] {a b : List Nat} {M : List Nat → Prop}, M a → M b → M (if p then a else b) := fun ha hb => by
    split
    · exact ha
    · exact hb
  unfold fldL
  refine aux (M := fun l => l = _ ∨ l = _ ∨ l = _ ∨ l = _ ∨ l = _ ∨ l = _ ∨ l = _ ∨ l = _ ∨ l = _ ∨ l = _ ∨ l = _ ∨ l = _ ∨ l = _ ∨ l = _ ∨ l = _) (by simp) ?_
  iterate 13 refine aux (M := fun l => l = _ ∨ l = _ ∨ l = _ ∨ l = _ ∨ l = _ ∨ l = _ ∨ l = _ ∨ l = _ ∨ l = _ ∨ l = _ ∨ l = _ ∨ l = _ ∨ l = _ ∨ l = _ ∨ l = _) (by simp) ?_
  simp
end Go.Proofs.Ytpmnjojednbnpaa
end
