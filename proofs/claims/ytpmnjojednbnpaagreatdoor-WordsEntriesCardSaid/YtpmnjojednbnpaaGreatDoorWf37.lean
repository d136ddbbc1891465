import Derived.Test.YtpmnjojednbnpaaGreatDoorWf35
import Derived.Test.YtpmnjojednbnpaaGreatDoorWf36
set_option maxHeartbeats 16000000
set_option maxRecDepth 100000
set_option linter.unusedVariables false
set_option linter.unusedSimpArgs false
namespace Go.Proofs.YtpmnjojednbnpaaGreatDoor
open Go.ChangeShapes Go.WideShapes Go.ChangeAt Go.RowKit
section
structure Rq (w : World) (g : Nat) (A : Option Addr) (c : Nat) (B : List Nat) (er : Int) : Prop where
  blk : w.heap[g]? = some (.cells #[.slice A B.length c, .int .i64 er] 148 (0, 0))
  sl : Sl w A (by8 B)
  cap : B.length ≤ c
  cm : c ≤ maxLen
  far : B ≠ [] → ∀ b o, A = some ⟨b, o, none⟩ → b < g
  oct : Oct B
section
variable {w w' : World} {g : Nat} {A A' : Option Addr} {c c' : Nat} {B B' : List Nat} {er : Int}
theorem Rq.lt (h : Rq w g A c B er) : g < w.heap.size := (Array.getElem?_eq_some_iff.1 h.blk).1
theorem Rq.got (h : Rq w g A c B er) : w.cell? ⟨g, 0, none⟩ = some (.slice A B.length c) ∧ w.cell? ⟨g, 1, none⟩ = some (.int .i64 er) ∧ (∀ i, w.frozen? ⟨g, i, none⟩ = false) :=
 ⟨by rw [cell_of_row w g 0 _ _ (0, 0) h.blk]; rfl, by rw [cell_of_row w g 1 _ _ (0, 0) h.blk]; rfl, fun i => by simp [World.frozen?, h.blk]⟩
theorem Rq.below (h : Rq w g A c B er) (hb : Below w.heap.size w w') : Rq w' g A c B er := ⟨by rw [hb.block g h.lt]; exact h.blk, h.sl.below hb, h.cap, h.cm, h.far, h.oct⟩
theorem Rq.put (h : Rq w g A c B er) (hs : Sl w A' (by8 B')) (hc : B'.length ≤ c') (hm : c' ≤ maxLen) (hf : B' ≠ [] → ∀ b o, A' = some ⟨b, o, none⟩ → b < g) (ho : Oct B') : Rq (w.setCell ⟨g, 0, none⟩ (.slice A' B'.length c')) g A' c' B' er := by
 have hs' : Sl (w.setCell ⟨g, 0, none⟩ (.slice A' B'.length c')) A' (by8 B') := by
  by_cases hB : B' = []
  ·rw [hB]; exact Sl.nil
  ·exact hs.far (fun b o hA => by have := hf hB b o hA; show b ≠ g; omega) _
 refine ⟨?_, hs', hc, hm, hf, ho⟩;rw [setCell_eq_setRow w g 0 _ 148 (0, 0) _ h.blk];have := setRow_heap w g _ ((#[.slice A B.length c, .int .i64 er] : Array Value).set! 0 (.slice A' B'.length c')) 148 (0, 0) h.blk;simpa using this
theorem Rq.fail (h : Rq w g A c B er) (e : Int) : Rq ((w.setCell ⟨g, 1, none⟩ (.int .i64 e)).setCell ⟨g, 0, none⟩ (.slice none 0 0)) g none 0 [] e := by
 refine ⟨?_, Sl.nil, Nat.le_refl _, by decide, (fun h => absurd rfl h), (fun x hx => by cases hx)⟩
 have h1 : (w.setCell ⟨g, 1, none⟩ (.int .i64 e)).heap[g]? = some (.cells #[.slice A B.length c, .int .i64 e] 148 (0, 0)) := by
  rw [setCell_eq_setRow w g 1 _ 148 (0, 0) _ h.blk];have := setRow_heap w g _ ((#[.slice A B.length c, .int .i64 er] : Array Value).set! 1 (.int .i64 e)) 148 (0, 0) h.blk;simpa using this
 rw [setCell_eq_setRow _ g 0 _ 148 (0, 0) _ h1];have := setRow_heap _ g _ ((#[.slice A B.length c, .int .i64 e] : Array Value).set! 0 (.slice none 0 0)) 148 (0, 0) h1;simpa using this
theorem Rq.belowW {W : Nat} (h : Rq w g A c B er) (hb : Below W w w') (hg : g < W) : Rq w' g A c B er := by
 refine ⟨by rw [hb.block g hg]; exact h.blk, ?_, h.cap, h.cm, h.far, h.oct⟩
 by_cases hB : B = []
 ·rw [hB]; exact Sl.nil
 ·intro hne;obtain ⟨b, o, hA, hc⟩ := h.sl hne;have hlt := h.far hB b o hA;exact ⟨b, o, hA, fun j u hu => (hb.cell (p := ⟨b, o + j, none⟩) (Nat.lt_trans hlt hg)).trans (hc j u hu)⟩
end
theorem qfail_any (g : Nat) (A : Option Addr) (c : Nat) (B : List Nat) (er x : Int) (w : World) (h : Rq w g A c B er) :
  Calls Tryz.prog 109 #[.pointer (some ⟨g, 0, none⟩), .int .i64 x] w fun e w' => e = .returned (.tuple #[]) ∧ Rq w' g none 0 [] x ∧ Chg g none w w' := by
 obtain ⟨k0, k1, fz⟩ := h.got;have hf0 := fz 0;have hf1 := fz 1;have hl := h.lt;have hR := h.fail x;have hC : Chg g none w ((w.setCell ⟨g, 1, none⟩ (.int .i64 x)).setCell ⟨g, 0, none⟩ (.slice none 0 0)) := (Chg.set 1 _).trans (Chg.set 0 _) (.inl rfl);clear fz;go_enter Tryz.func109, Tryz.ntmps109;go_wp2_with fail
 go_end0
 exact ⟨rfl, hR, hC⟩
theorem qend_any (g : Nat) (A : Option Addr) (c : Nat) (B : List Nat) (er : Int) (w : World) (h : Rq w g A c B er) :
  Calls Tryz.prog 84 #[.pointer (some ⟨g, 0, none⟩)] w fun e w' => e = .returned (.int .i64 (endF ⟨B, er⟩)) ∧ w' = w := by
 obtain ⟨k0, k1, fz⟩ := h.got;have hl := h.lt;obtain ⟨E, hE⟩ : ∃ E, endF ⟨B, er⟩ = E := ⟨_, rfl⟩;rw [hE];unfold endF at hE;simp only at hE;clear fz
 by_cases her : er = 0
 ·subst her;rw [if_neg (by decide)] at hE
  by_cases hB : B = []
  ·subst hB;rw [if_pos rfl] at hE;subst hE;simp only [List.length_nil] at k0;clear h;go_enter Tryz.func84, Tryz.ntmps84;go_wp2_with fail;go_ret;exact ⟨rfl, rfl⟩
  ·rw [if_neg hB] at hE;subst hE;have hp := List.length_pos_iff.2 hB;have hpi : (0 : Int) < (B.length : Int) := by omega
   clear h hB;go_enter Tryz.func84, Tryz.ntmps84;go_wp2_with fail;go_ret;exact ⟨rfl, rfl⟩
 ·rw [if_pos her] at hE;subst hE;have he1 : (er == 0) = false := by simpa using her
  clear h her;go_enter Tryz.func84, Tryz.ntmps84;go_wp2_with fail;go_ret;exact ⟨rfl, rfl⟩
theorem qget_any (g : Nat) (A : Option Addr) (c : Nat) (B : List Nat) (er lo hi : Int) (w : World) (h : Rq w g A c B er) {x : Int} {s' : Rs} (hx : rdI lo hi ⟨B, er⟩ = (x, s')) :
  Calls Tryz.prog 83 #[.pointer (some ⟨g, 0, none⟩), .int .i64 lo, .int .i64 hi] w fun e w' => e = .returned (.int .i64 x) ∧ Chg g none w w' ∧ ∃ A' c', Rq w' g A' c' s'.B s'.err := by
 obtain ⟨k0, k1, fz⟩ := h.got;have hl := h.lt;by_cases her : er = 0
 case neg =>
  have he1 : (er != 0) = true := by simpa using her
  unfold rdI at hx;rw [if_pos her] at hx;injection hx with hx1 hx2;subst hx1;have HX := hJz hx2;have H := hJz h;clear h her fz hx2;go_enter Tryz.func83, Tryz.ntmps83;go_wp2_with fail;go_ret;refine ⟨rfl, Chg.refl _ _ _, A, c, ?_⟩;rw [← HX.out];exact H.out
 subst her;rw [rdI_lead] at hx;have hlead := lead_le 10 B;obtain ⟨n, hn⟩ : ∃ n, lead 10 B = n := ⟨_, rfl⟩;have HN0 : Hid (lead (10 - 0) (B.drop 0) = n) := hJz (by rw [List.drop_zero]; exact hn);rw [hn] at hx hlead;have HX := hJz hx;have H := hJz h;have HSB := hJz (fun j (hj : j < B.length) => h.sl.byte hj);have HOC := hJz (fun j (hj : j < B.length) => h.oct _ (List.getElem_mem hj));have hcm := h.cm;have hcp := h.cap;unfold maxLen at hcm;have hn10 := hlead.1;have hnl := hlead.2;have HFZ0 := hJz (fz 0);clear h hx fz hn hlead;go_enter Tryz.func83, Tryz.ntmps83;go_wp2_with fail
 go_loop [7] (fun iv => ∃ k : Nat, k ≤ n ∧ iv = .int .i64 (k : Int) ∧ lead (10 - k) (B.drop k) = n - k) (fun iv => n - (intOf iv).toNat)
 case atStart => exact ⟨0, by omega, rfl, by rw [HN0.out]; rfl⟩
 case round =>
  obtain ⟨k, hk, rfl, hle⟩ := hrel;have hk0 : (0 : Int) ≤ (k : Int) := by omega
  have hkc : (k : Int) ≤ 10 := by omega
  have HLE := hJz hle;clear hle;go_upto_region 4 with fail;go_cut [36] (fun s wx => s = .bool (decide (k < n)) ∧ w = wx)
  case first =>
   by_cases hkl : k < B.length
   ·have hkli : (k : Int) < (B.length : Int) := by omega
    obtain ⟨b, oo, hA, hcb⟩ := HSB.out k hkl;obtain ⟨y, hy⟩ : ∃ y, B[k] = y := ⟨_, rfl⟩;have hst := lead_step (k := k) (B := B);rw [hy] at hcb;subst hA
    by_cases h128 : 128 ≤ y
    ·have h128i : (128 : Int) ≤ (y : Int) := by omega
     by_cases hk10 : k < 10
     ·have hk10i : (k : Int) < 10 := by omega
      have hkn : k < n := by
       have h1 := hst hk10 hkl (by rw [hy]; exact h128);have h2 := HLE.out;omega
      have HK := hJz hkn;clear hst hy hkn h128 hk10;go_wp2_with fail;go_meet
      case rel => exact ⟨by rw [decide_eq_true HK.out], rfl⟩
     ·have hk10i : ¬ (k : Int) < 10 := by omega
      have HK := hJz (show ¬ k < n by omega);clear hst hy h128 hk10;go_wp2_with fail;go_meet
      case rel => exact ⟨by rw [decide_eq_false HK.out], rfl⟩
    ·have h128i : ¬ (128 : Int) ≤ (y : Int) := by omega
     have hkn : ¬ k < n := by
      have h1 := lead_low hkl (by rw [hy]; exact h128);have h2 := HLE.out;omega
     have HK := hJz hkn;clear hst hy hkn h128;go_wp2_with fail;go_meet
     case rel => exact ⟨by rw [decide_eq_false HK.out], rfl⟩
   ·have hkli : ¬ (k : Int) < (B.length : Int) := by omega
    have hkn : ¬ k < n := by
     have h1 := lead_end hkl;have h2 := HLE.out;omega
    have HK := hJz hkn;clear hkn hkl;go_wp2_with fail;go_meet
    case rel => exact ⟨by rw [decide_eq_false HK.out], rfl⟩
  case rest =>
   obtain ⟨rfl, rfl⟩ := hcut
   by_cases hkn : k < n
   ·have HLE2 : Hid (lead (10 - (k + 1)) (B.drop (k + 1)) = n - (k + 1)) := hJz (by
     have h2 := HLE.out;have hkl : k < B.length := by omega
     rcases Nat.lt_or_ge k 10 with h10 | h10
     ·rcases Nat.lt_or_ge B[k] 128 with h | h
      ·have h1 := lead_low hkl (by omega);omega
      ·have h1 := lead_step h10 hkl h;omega
     ·omega)
    rw [decide_eq_true hkn];go_wp2_with fail
    go_round
    case rel => exact ⟨k + 1, by omega, by go_num, HLE2.out⟩
    case measure => simp [intOf]; omega
   ·obtain rfl : k = n := by omega
    rw [decide_eq_false hkn];clear hkn HLE HN0;go_upto_region 6 with fail;by_cases hA : k < 10 ∧ k = B.length
    case pos =>
     have hx := HX.out;rw [if_pos hA] at hx;injection hx with hx1 hx2;subst hx1;have HS2 := hJz hx2;have HFA := hJz (qfail_any g A c B 0 4 w H.out);have g1 : (k : Int) < 10 := by omega
     have g2 : ((k : Int) == (B.length : Int)) = true := by rw [beq_iff_eq]; omega
     clear hx2 hA HX HSB HOC;go_wp2_with fail;refine HFA.out.mono ?_;rintro e w1 ⟨rfl, hR, hC⟩;go_wp2_with fail;go_ret;refine ⟨rfl, hC, none, 0, ?_⟩;rw [← HS2.out];exact hR
    have hx := HX.out;rw [if_neg hA] at hx;have HX2 := hJz hx;clear hx HX;go_cut [49] (fun s wx => s = .bool false ∧ w = wx)
    case first =>
     by_cases h10 : k < 10
     ·have g1 : (k : Int) < 10 := by omega
      have g2 : ((k : Int) == (B.length : Int)) = false := by rw [beq_eq_false_iff_ne]; omega
      clear hA h10;go_wp2_with fail;go_meet
      case rel => exact ⟨rfl, rfl⟩
     ·have g1 : ¬ (k : Int) < 10 := by omega
      clear hA h10;go_wp2_with fail;go_meet
      case rel => exact ⟨rfl, rfl⟩
    obtain ⟨rfl, rfl⟩ := hcut;obtain ⟨Y, hY⟩ : ∃ Y, B.getD k 0 = Y := ⟨_, rfl⟩;rw [hY] at HX2
    have HBY : Hid (k < B.length → ∃ b oo, A = some ⟨b, oo, none⟩ ∧ w.cell? ⟨b, oo + k, none⟩ = some (.int .u8 (Y : Int)) ∧ Y < 256) := hJz fun h => by
     obtain ⟨b, oo, e, h1⟩ := HSB.out k h;have hg : B.getD k 0 = B[k] := by rw [List.getD_eq_getElem?_getD, List.getElem?_eq_getElem h]; rfl
     rw [← hg, hY] at h1;have h2 := HOC.out k h;rw [← hg, hY] at h2;exact ⟨b, oo, e, h1, h2⟩
    have hkl : k < 10 → k < B.length := fun h => by omega
    have HKL := hJz hkl;have HYE := hJz hY;clear hY hA hkl;go_upto_region 9 with fail;obtain ⟨bad, hbad⟩ : ∃ bad : Bool, decide (k = 10 ∨ (k = 9 ∧ 1 < Y) ∨ (0 < k ∧ Y = 0)) = bad := ⟨_, rfl⟩;have HBAD := hJz hbad;clear hbad;go_cut [80] (fun s wx => s = .bool bad ∧ w = wx)
    case first =>
     by_cases h10 : k = 10
     ·have g1 : ((k : Int) == 10) = true := by rw [beq_iff_eq]; omega
      have hb : bad = true := by rw [← HBAD.out]; exact decide_eq_true (.inl h10)
      subst hb;clear h10;go_wp2_with fail;go_meet
      case rel => exact ⟨rfl, rfl⟩
     ·have g1 : ((k : Int) == 10) = false := by rw [beq_eq_false_iff_ne]; omega
      obtain ⟨b, oo, hA, hcy, hY256⟩ := HBY.out (HKL.out (by omega));have hkB := HKL.out (by omega);have hkBi : (k : Int) < (B.length : Int) := by omega
      subst hA
      by_cases h9 : k = 9
      ·have g2 : ((k : Int) == 9) = true := by rw [beq_iff_eq]; omega
       have hcy9 : w.cell? ⟨b, oo + 9, none⟩ = some (.int .u8 (Y : Int)) := by rw [← h9]; exact hcy
       have hl9 : (9 : Int) < (B.length : Int) := by omega
       have hk0i : (0 : Int) < (k : Int) := by omega
       by_cases hY1 : 1 < Y
       ·have hb : bad = true := by rw [← HBAD.out]; exact decide_eq_true (.inr (.inl ⟨h9, hY1⟩))
        have g3 : (1 : Int) < (Y : Int) := by omega
        subst hb;clear h9 h10 hY1 hkB;go_wp2_with fail;go_meet
        case rel => exact ⟨rfl, rfl⟩
       ·have g3 : ¬ (1 : Int) < (Y : Int) := by omega
        by_cases hY0 : Y = 0
        ·have hb : bad = true := by rw [← HBAD.out]; exact decide_eq_true (.inr (.inr ⟨by omega, hY0⟩))
         have g4 : ((Y : Int) == 0) = true := by rw [beq_iff_eq]; omega
         subst hb;clear h9 h10 hY1 hkB hY0;go_wp2_with fail;go_meet
         case rel => exact ⟨rfl, rfl⟩
        ·have hb : bad = false := by rw [← HBAD.out]; exact decide_eq_false (by omega)
         have g4 : ((Y : Int) == 0) = false := by rw [beq_eq_false_iff_ne]; omega
         subst hb;clear h9 h10 hY1 hkB hY0;go_wp2_with fail;go_meet
         case rel => exact ⟨rfl, rfl⟩
      ·have g2 : ((k : Int) == 9) = false := by rw [beq_eq_false_iff_ne]; omega
       by_cases h0 : 0 < k
       ·have g5 : (0 : Int) < (k : Int) := by omega
        by_cases hY0 : Y = 0
        ·have hb : bad = true := by rw [← HBAD.out]; exact decide_eq_true (.inr (.inr ⟨h0, hY0⟩))
         have g4 : ((Y : Int) == 0) = true := by rw [beq_iff_eq]; omega
         subst hb;clear h9 h10 hkB hY0 h0;go_wp2_with fail;go_meet
         case rel => exact ⟨rfl, rfl⟩
        ·have hb : bad = false := by rw [← HBAD.out]; exact decide_eq_false (by omega)
         have g4 : ((Y : Int) == 0) = false := by rw [beq_eq_false_iff_ne]; omega
         subst hb;clear h9 h10 hkB hY0 h0;go_wp2_with fail;go_meet
         case rel => exact ⟨rfl, rfl⟩
       ·have g5 : ¬ (0 : Int) < (k : Int) := by omega
        have hb : bad = false := by rw [← HBAD.out]; exact decide_eq_false (by omega)
        subst hb;clear h9 h10 hkB h0;go_wp2_with fail;go_meet
        case rel => exact ⟨rfl, rfl⟩
    obtain ⟨rfl, rfl⟩ := hcut;have hbd := HBAD.out
    cases bad with
    | true =>
     have hbd := of_decide_eq_true hbd;have hx := HX2.out;rw [if_pos hbd] at hx;injection hx with hx1 hx2;subst hx1;have HS2 := hJz hx2;have HFA := hJz (qfail_any g A c B 0 3 w H.out);clear hx2 hbd HX2 HSB HOC;go_wp2_with fail;refine HFA.out.mono ?_;rintro e w1 ⟨rfl, hR, hC⟩;go_wp2_with fail;go_ret;refine ⟨rfl, hC, none, 0, ?_⟩;rw [← HS2.out];exact hR
    | false =>
     have hbd := of_decide_eq_false hbd;have hx := HX2.out;rw [if_neg hbd] at hx;have hk9 : k ≤ 9 := by omega
     have hkB : k < B.length := HKL.out (by omega);have HFIT : Hid (∀ j, j ≤ k + 1 → val7 ((B.take (k + 1)).drop j) < 18446744073709551616) := hJz fun j hj => val7_fits hk9 hkB (fun h9 => by rw [HYE.out]; omega) j hj;have htl : (B.take (k + 1)).length = k + 1 := by rw [List.length_take]; omega
     have HSTP : Hid (∀ m, m < k + 1 → ∃ b oo y, A = some ⟨b, oo, none⟩ ∧ w.cell? ⟨b, oo + m, none⟩ = some (.int .u8 ((y : Nat) : Int)) ∧ y < 256 ∧ val7 ((B.take (k + 1)).drop m) = y % 128 + 128 * val7 ((B.take (k + 1)).drop (m + 1))) := hJz fun m hm => by
      obtain ⟨b, oo, e, h1⟩ := HSB.out m (by omega);have h2 := HOC.out m (by omega);have h3 := val7_step (l := B.take (k + 1)) (j := m) (by omega);rw [List.getElem_take] at h3;exact ⟨b, oo, B[m], e, h1, h2, h3⟩
     have HE0 : Hid (val7 ((B.take (k + 1)).drop (k + 1)) = 0) := hJz (by rw [List.drop_eq_nil_of_le (by omega)]; rfl);have HX3 := hJz hx;clear hx hbd HX2 htl HBY HKL HYE HBAD HSB HOC;go_wp2_with fail
     go_loop [8, 9] (fun uv iv => ∃ (j : Nat) (U : Int), j ≤ k + 1 ∧ iv = .int .i64 (j : Int) ∧ uv = .int .u64 U ∧ U = (val7 ((B.take (k + 1)).drop j) : Int)) (fun _ iv => (intOf iv).toNat)
     case atStart => exact ⟨k + 1, 0, by omega, by go_num, rfl, by rw [HE0.out]; rfl⟩
     case round =>
      obtain ⟨j, U, hj, rfl, rfl, hU⟩ := hrel;have hU0 : 0 ≤ U := by omega
      by_cases hj0 : 0 < j
      ·obtain ⟨m, rfl⟩ : ∃ m, j = m + 1 := ⟨j - 1, by omega⟩;obtain ⟨b, oo, y, hA, hcy, hy, hv⟩ := HSTP.out m (by omega);have hf := HFIT.out m (by omega);have hmi : (0 : Int) < ((m + 1 : Nat) : Int) := by omega
       have hml : (m : Int) < (B.length : Int) := by omega
       have hm1 : ((m + 1 : Nat) : Int) - 1 = (m : Int) := by omega
       have hUb : 128 * U + (y : Int) % 128 < 18446744073709551616 := by omega
       have HV : Hid (128 * U + (y : Int) % 128 = (val7 ((B.take (k + 1)).drop m) : Int)) := hJz (by rw [hv]; omega);subst hA;clear hv hf hU;go_wp2_with fail
       go_round
       case rel => exact ⟨m, 128 * U + (y : Int) % 128, by omega, by go_num, by go_num, HV.out⟩
       case measure => simp [intOf] <;> omega
      ·obtain rfl : j = 0 := by omega
       rw [List.drop_zero] at hU;obtain ⟨V, hV⟩ : ∃ V : Nat, val7 (B.take (k + 1)) = V := ⟨_, rfl⟩;have hVf := HFIT.out 0 (by omega);rw [List.drop_zero, hV] at hVf;rw [hV] at hU;have hx := HX3.out;rw [hV] at hx;obtain ⟨b, oo, y0, hA, _, _, _⟩ := HSTP.out 0 (by omega);subst hA
       have HRN : Hid (∀ A' : Option Addr, ((c = k + 1 ∧ A' = some ⟨b, oo, none⟩) ∨ A' = some ⟨b, oo + (k + 1), none⟩) → Rq (w.setCell ⟨g, 0, none⟩ (.slice A' (B.length - (k + 1)) (c - (k + 1)))) g A' (c - (k + 1)) (B.drop (k + 1)) 0) := hJz fun A' hA' => by
        have hbg := H.out.far (fun e => by rw [e] at hkB; simp at hkB) b oo rfl
        have hs : Sl w A' (by8 (B.drop (k + 1))) := by
         rcases hA' with ⟨h1, h2⟩ | h2
         ·have : B.drop (k + 1) = [] := List.drop_eq_nil_of_le (by omega);rw [this]; exact Sl.nil
         ·rw [h2, by8_drop];exact H.out.sl.dropN (k + 1)
        have h := H.out.put (A' := A') (c' := c - (k + 1)) (B' := B.drop (k + 1)) hs (by rw [List.length_drop]; omega) (by have := H.out.cm; omega) (fun _ b2 o2 e => by
         rcases hA' with ⟨h1, h2⟩ | h2
         ·rw [h2] at e; injection e with e; injection e with e _; omega
         ·rw [h2] at e; injection e with e; injection e with e _; omega) (fun q hq => H.out.oct q (List.mem_of_mem_drop hq))
        rw [List.length_drop] at h;exact h
       have HX4 := hJz hx;have hUV : (U : Int) < 18446744073709551616 := by omega
       have HUV := hJz hU;have hkB2 : ((k : Int) + 1) ≤ (B.length : Int) := by omega
       have hkc2 : ((k : Int) + 1) ≤ (c : Int) := by omega
       have hfz0 := HFZ0.out;clear hx hV hVf hU HX3 HSTP HFIT HE0 HFZ0;go_upto_region 18 with fail;obtain ⟨A2, hA2⟩ : ∃ A2, (if c = k + 1 then some (⟨b, oo, none⟩ : Addr) else some ⟨b, oo + (k + 1), none⟩) = A2 := ⟨_, rfl⟩;rw [hA2]
       have HR5 := hJz (HRN.out A2 (by
        rw [← hA2]
        split
        ·rename_i h; exact .inl ⟨h, rfl⟩
        ·exact .inr rfl))
       have hC5 : Chg g none w (w.setCell ⟨g, 0, none⟩ (.slice A2 (B.length - (k + 1)) (c - (k + 1)))) := Chg.set 0 _;have hln : (B.drop (k + 1)).length = B.length - (k + 1) := List.length_drop;have HFA := hJz (qfail_any g A2 (c - (k + 1)) (B.drop (k + 1)) 0 7 _ HR5.out);clear hA2 HRN hfz0 k1 k0 hl H hkB2 hkc2 hln hk9 hkB;generalize w.setCell ⟨g, 0, none⟩ (.slice A2 (B.length - (k + 1)) (c - (k + 1))) = w5 at *;have hx := HX4.out;have hUV := HUV.out
       by_cases hpar : V % 2 = 0
       ·have huz : uz V = U / 2 := by unfold uz; rw [if_pos hpar]; omega
        have hp1 : (U % 2 == 1) = false := by rw [beq_eq_false_iff_ne]; omega
        rw [huz] at hx;have hUh : U / 2 < 9223372036854775808 := by omega
        have hUh0 : 0 ≤ U / 2 := by omega
        clear huz hpar hUV HUV
        by_cases hlo : U / 2 < lo
        ·rw [if_pos (.inl hlo)] at hx;injection hx with hx1 hx2;subst hx1;have HS2 := hJz hx2;clear hx2 HX4;go_wp2_with fail;refine HFA.out.mono ?_;rintro e w6 ⟨rfl, hR, hC⟩;go_wp2_with fail;go_ret;refine ⟨rfl, hC5.trans hC (.inl rfl), none, 0, ?_⟩;rw [← HS2.out];exact hR
        ·by_cases hhi : hi < U / 2
         ·rw [if_pos (.inr hhi)] at hx;injection hx with hx1 hx2;subst hx1;have HS2 := hJz hx2;clear hx2 HX4;go_wp2_with fail;refine HFA.out.mono ?_;rintro e w6 ⟨rfl, hR, hC⟩;go_wp2_with fail;go_ret;refine ⟨rfl, hC5.trans hC (.inl rfl), none, 0, ?_⟩;rw [← HS2.out];exact hR
         ·rw [if_neg (by omega)] at hx;injection hx with hx1 hx2;subst hx1;have HS2 := hJz hx2;clear hx2 HX4;go_wp2_with fail;go_ret;refine ⟨rfl, hC5, A2, c - (k + 1), ?_⟩;rw [← HS2.out];exact HR5.out
       ·have huz : uz V = -(U / 2) - 1 := by unfold uz; rw [if_neg hpar]; omega
        have hp1 : (U % 2 == 1) = true := by rw [beq_iff_eq]; omega
        rw [huz] at hx;have hUh : U / 2 < 9223372036854775808 := by omega
        have hUh0 : 0 ≤ U / 2 := by omega
        clear huz hpar hUV HUV
        by_cases hlo : -(U / 2) - 1 < lo
        ·rw [if_pos (.inl hlo)] at hx;injection hx with hx1 hx2;subst hx1;have HS2 := hJz hx2;clear hx2 HX4;go_wp2_with fail;refine HFA.out.mono ?_;rintro e w6 ⟨rfl, hR, hC⟩;go_wp2_with fail;go_ret;refine ⟨rfl, hC5.trans hC (.inl rfl), none, 0, ?_⟩;rw [← HS2.out];exact hR
        ·by_cases hhi : hi < -(U / 2) - 1
         ·rw [if_pos (.inr hhi)] at hx;injection hx with hx1 hx2;subst hx1;have HS2 := hJz hx2;clear hx2 HX4;go_wp2_with fail;refine HFA.out.mono ?_;rintro e w6 ⟨rfl, hR, hC⟩;go_wp2_with fail;go_ret;refine ⟨rfl, hC5.trans hC (.inl rfl), none, 0, ?_⟩;rw [← HS2.out];exact hR
         ·rw [if_neg (by omega)] at hx;injection hx with hx1 hx2;subst hx1;have HS2 := hJz hx2;clear hx2 HX4;go_wp2_with fail;go_ret;refine ⟨rfl, hC5, A2, c - (k + 1), ?_⟩;rw [← HS2.out];exact HR5.out
theorem rget34 (g : Nat) (A : Option Addr) (c : Nat) (B : List Nat) (er : Int) (w : World) (h : Rq w g A c B er) {x : Int} {s' : Rs} (hx : rdM ⟨B, er⟩ = (x, s')) :
  Calls Tryz.prog 82 #[.pointer (some ⟨g, 0, none⟩)] w fun e w' => e = .returned (.int .i64 x) ∧ Chg g none w w' ∧ ∃ A' c', Rq w' g A' c' s'.B s'.err := by
 have HI := hJz (qget_any g A c B er (-9223372036854775808) 9223372036854775807 w h hx);clear h hx;go_enter Tryz.func82, Tryz.ntmps82;go_wp2_with fail;refine HI.out.mono ?_;rintro e w1 ⟨rfl, hC, hr⟩;go_wp2_with fail;go_ret;exact ⟨rfl, hC, hr⟩
end
end Go.Proofs.YtpmnjojednbnpaaGreatDoor
