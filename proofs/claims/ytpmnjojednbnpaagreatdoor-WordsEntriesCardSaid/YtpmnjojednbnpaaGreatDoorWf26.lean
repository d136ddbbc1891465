import Derived.Test.YtpmnjojednbnpaaGreatDoorWf07
set_option maxHeartbeats 16000000
set_option maxRecDepth 100000
set_option linter.unusedVariables false
set_option linter.unusedSimpArgs false
namespace Go.Proofs.YtpmnjojednbnpaaGreatDoor
open Go.ChangeShapes Go.WideShapes Go.ChangeAt Go.RowKit
section
theorem rhas_any (L : List Nat) (c : Nat) (w : World) (hL : ∀ x ∈ L, x < 128) (hl : L.length ≤ 1000) :
  Calls Tryz.prog 63 #[.string (bs8 L), .int .u8 (c : Int)] w fun e w' => e = .returned (.bool (L.contains c)) ∧ w' = w := by
 have HAT : Hid (∀ k, (h : k < (bs8 L).size) → ∃ h2 : k < L.length, ((bs8 L)[k]'h).toNat = L[k]) := hJz fun k h => by
  have h2 : k < L.length := by rw [bs8_size] at h; exact h
  exact ⟨h2, bs8_at h2 (by have := hL _ (List.getElem_mem h2); omega)⟩
 have hsz := bs8_size L;obtain ⟨s, hs⟩ : ∃ s, bs8 L = s := ⟨_, rfl⟩;rw [hs] at HAT hsz ⊢;have HSZ := hJz hsz;obtain ⟨R, hR⟩ : ∃ R, L.contains c = R := ⟨_, rfl⟩;rw [hR];have HR := hJz hR;have hs1 : s.size ≤ 1000 := by omega
 clear hL hs hsz hR;go_enter Tryz.func63, Tryz.ntmps63;go_wp2_with fail
 go_loop [5] (fun iv => ∃ k : Nat, k ≤ s.size ∧ iv = .int .i64 (k : Int) ∧ (L.take k).contains c = false) (fun iv => s.size - (intOf iv).toNat)
 case atStart => exact ⟨0, by omega, rfl, by simp⟩
 case round =>
  obtain ⟨k, hk, rfl, hno⟩ := hrel
  by_cases hkl : k < s.size
  ·have hk1 : (k : Int) < (s.size : Int) := by omega
   have hk0 : (0 : Int) ≤ (k : Int) := by omega
   obtain ⟨h2, hat⟩ := HAT.out k hkl
   have hTK : (L.take (k + 1)).contains c = ((L.take k).contains c || decide (L[k] = c)) := by
    rw [take_snoc L k h2, Bool.eq_iff_iff];simp only [List.contains_iff_mem, Bool.or_eq_true, decide_eq_true_eq, List.mem_append, List.mem_singleton];exact ⟨fun h => h.imp id Eq.symm, fun h => h.imp id Eq.symm⟩
   rw [hno, Bool.false_or] at hTK;obtain ⟨x, hx⟩ : ∃ x : Nat, s[k].toNat = x := ⟨_, rfl⟩;rw [hx] at hat
   by_cases hc : x = c
   ·have hR1 : R = true := by
     rw [← HR.out];rw [← hat, hc] at hTK;have h3 : (L.take (k + 1)).contains c = true := by rw [hTK]; simp
     rw [List.contains_iff_mem] at h3 ⊢;exact List.mem_of_mem_take h3
    subst hR1;have hq : (((s[k].toNat : Nat) : Int) == (c : Int)) = true := by rw [hx, beq_iff_eq]; omega
    clear hTK hat hc hx hno;go_wp2_with fail;go_ret;exact ⟨rfl, rfl⟩
   ·have hq : (((s[k].toNat : Nat) : Int) == (c : Int)) = false := by rw [hx, beq_eq_false_iff_ne]; omega
    have HN : Hid ((L.take (k + 1)).contains c = false) := hJz (by rw [hTK, ← hat]; exact decide_eq_false hc);clear hTK hat hc hx hno;go_wp2_with fail
    go_round
    case rel => exact ⟨k + 1, by omega, by go_num, HN.out⟩
    case measure => simp [intOf]; omega
  ·obtain rfl : k = s.size := by omega
   have hR1 : R = false := by
    rw [← HR.out];rw [HSZ.out, List.take_length] at hno;exact hno
   subst hR1;clear hno;go_wp2_with fail;go_ret;exact ⟨rfl, rfl⟩
theorem rwithin_any (n mx : Int) (b : Bool) (w : World) :
  Calls Tryz.prog 62 #[.int .i64 n, .int .i64 mx, .bool b] w fun e w' => e = .returned (.bool (wthI n mx b)) ∧ w' = w := by
 unfold wthI
 by_cases h0 : n = 0
 ·subst h0;have e : (decide ((0 : Int) = 0) || (b && decide ((0 : Int) < 0 ∧ 0 ≤ mx))) = true := by simp
  rw [e];clear e;go_enter Tryz.func62, Tryz.ntmps62;go_wp2_with fail;go_ret;exact ⟨rfl, rfl⟩
 ·have hn : (n == 0) = false := by simpa using h0
  rw [decide_eq_false h0, Bool.false_or];clear h0
  cases b with
  | false =>
   rw [Bool.false_and];go_enter Tryz.func62, Tryz.ntmps62;go_wp2_with fail;go_ret;exact ⟨rfl, rfl⟩
  | true =>
   rw [Bool.true_and]
   by_cases h1 : 0 < n
   ·by_cases h2 : n ≤ mx
    ·rw [decide_eq_true ⟨h1, h2⟩];go_enter Tryz.func62, Tryz.ntmps62;go_wp2_with fail;go_ret;exact ⟨rfl, rfl⟩
    ·rw [decide_eq_false (fun h => h2 h.2)];go_enter Tryz.func62, Tryz.ntmps62;go_wp2_with fail;go_ret;exact ⟨rfl, rfl⟩
   ·rw [decide_eq_false (fun h => h1 h.1)];go_enter Tryz.func62, Tryz.ntmps62;go_wp2_with fail;go_ret;exact ⟨rfl, rfl⟩
theorem ris34E (z0 z1 z2 z3 z4 z5 z6 z7 z8 z9 z10 z11 z12 : Int) (A : Option Addr) (n cap : Nat) (w : World) (hn : n ≤ maxLen) :
  Calls Tryz.prog 34 #[.agg #[.int .i64 z0, .int .i64 z1, .int .i64 z2, .int .i64 z3, .int .i64 z4, .int .i64 z5, .int .i64 z6, .int .i64 z7, .int .i64 z8, .int .i64 z9, .int .i64 z10, .int .i64 z11, .int .i64 z12, .slice A n cap]] w fun e w' => e = .returned (.bool (isZ [z0, z1, z2, z3, z4, z5, z6, z7, z8, z9, z10, z11, z12] n)) ∧ Below w.heap.size w w' := by
 obtain ⟨RES, hRES⟩ : ∃ RES : Bool, isZ [z0, z1, z2, z3, z4, z5, z6, z7, z8, z9, z10, z11, z12] n = RES := ⟨_, rfl⟩;rw [hRES];unfold maxLen at hn;have hCB0 : CB (w.alloc (.cells #[.int .i64 z0, .int .i64 z1, .int .i64 z2, .int .i64 z3, .int .i64 z4, .int .i64 z5, .int .i64 z6, .int .i64 z7, .int .i64 z8, .int .i64 z9, .int .i64 z10, .int .i64 z11, .int .i64 z12, .slice A n cap] 26)) w.heap.size [z0, z1, z2, z3, z4, z5, z6, z7, z8, z9, z10, z11, z12] (.slice A n cap) := ⟨heap_alloc_new w _, rfl⟩;have hB0 : Below w.heap.size w (w.alloc (.cells #[.int .i64 z0, .int .i64 z1, .int .i64 z2, .int .i64 z3, .int .i64 z4, .int .i64 z5, .int .i64 z6, .int .i64 z7, .int .i64 z8, .int .i64 z9, .int .i64 z10, .int .i64 z11, .int .i64 z12, .slice A n cap] 26)) := since_alloc (Below.refl _ w) _;obtain ⟨b, hb⟩ : ∃ b, w.heap.size = b := ⟨_, rfl⟩;have HBW := hJz hb;rw [hb] at hCB0 hB0 ⊢;clear hb;have HF := hJz (fun V => rfld_any z0 V)
 have hL5 : (fldL z0).length ≤ 5 := by
  have h := fldL_cases z0
  rcases h with h | h | h | h | h | h | h | h | h | h | h | h | h | h | h <;> rw [h] <;> decide
 have HHAS : Hid (∀ (c : Nat) V, Calls Tryz.prog 63 #[.string (bs8 (fldL z0)), .int .u8 (c : Int)] V fun e w' => e = .returned (.bool ((fldL z0).contains c)) ∧ w' = V) := hJz fun c V => rhas_any (fldL z0) c V (fldL_low z0) (by omega);have HWT := hJz (fun n m b V => rwithin_any n m b V)
 have HIS : Hid (RES = (decide (1 ≤ z0 ∧ z0 ≤ 31 ∧ 0 ≤ z1 ∧ z1 ≤ 8) &&
  (wthI z2 8 ((fldL z0).contains 77) && wthI z7 8 ((fldL z0).contains 73) && wthI z8 4 ((fldL z0).contains 65) && wthI z9 255 ((fldL z0).contains 84) && wthI z10 1048576 ((fldL z0).contains 68)) &&
  (wthI z3 16 ((fldL z0).contains 85) && wthI z4 16 ((fldL z0).contains 85) && wthI z5 16 ((fldL z0).contains 79) && wthI z6 16 ((fldL z0).contains 79)) &&
  ((decide (z11 = 0) || (fldL z0).contains 81) && (decide (z12 = 0) || (fldL z0).contains 80)) &&
  (decide (n = 0) || ((fldL z0).contains 78 && decide (n ≤ 32))))) := hJz hRES.symm
 obtain ⟨m77, hm77⟩ : ∃ m, (fldL z0).contains 77 = m := ⟨_, rfl⟩;have HH77 : Hid (∀ V, Calls Tryz.prog 63 #[.string (bs8 (fldL z0)), .int .u8 77] V fun e w' => e = .returned (.bool m77) ∧ w' = V) := hJz fun V => by rw [← hm77]; exact HHAS.out 77 V
 obtain ⟨m73, hm73⟩ : ∃ m, (fldL z0).contains 73 = m := ⟨_, rfl⟩;have HH73 : Hid (∀ V, Calls Tryz.prog 63 #[.string (bs8 (fldL z0)), .int .u8 73] V fun e w' => e = .returned (.bool m73) ∧ w' = V) := hJz fun V => by rw [← hm73]; exact HHAS.out 73 V
 obtain ⟨m65, hm65⟩ : ∃ m, (fldL z0).contains 65 = m := ⟨_, rfl⟩;have HH65 : Hid (∀ V, Calls Tryz.prog 63 #[.string (bs8 (fldL z0)), .int .u8 65] V fun e w' => e = .returned (.bool m65) ∧ w' = V) := hJz fun V => by rw [← hm65]; exact HHAS.out 65 V
 obtain ⟨m84, hm84⟩ : ∃ m, (fldL z0).contains 84 = m := ⟨_, rfl⟩;have HH84 : Hid (∀ V, Calls Tryz.prog 63 #[.string (bs8 (fldL z0)), .int .u8 84] V fun e w' => e = .returned (.bool m84) ∧ w' = V) := hJz fun V => by rw [← hm84]; exact HHAS.out 84 V
 obtain ⟨m68, hm68⟩ : ∃ m, (fldL z0).contains 68 = m := ⟨_, rfl⟩;have HH68 : Hid (∀ V, Calls Tryz.prog 63 #[.string (bs8 (fldL z0)), .int .u8 68] V fun e w' => e = .returned (.bool m68) ∧ w' = V) := hJz fun V => by rw [← hm68]; exact HHAS.out 68 V
 obtain ⟨m85, hm85⟩ : ∃ m, (fldL z0).contains 85 = m := ⟨_, rfl⟩;have HH85 : Hid (∀ V, Calls Tryz.prog 63 #[.string (bs8 (fldL z0)), .int .u8 85] V fun e w' => e = .returned (.bool m85) ∧ w' = V) := hJz fun V => by rw [← hm85]; exact HHAS.out 85 V
 obtain ⟨m79, hm79⟩ : ∃ m, (fldL z0).contains 79 = m := ⟨_, rfl⟩;have HH79 : Hid (∀ V, Calls Tryz.prog 63 #[.string (bs8 (fldL z0)), .int .u8 79] V fun e w' => e = .returned (.bool m79) ∧ w' = V) := hJz fun V => by rw [← hm79]; exact HHAS.out 79 V
 obtain ⟨m81, hm81⟩ : ∃ m, (fldL z0).contains 81 = m := ⟨_, rfl⟩;have HH81 : Hid (∀ V, Calls Tryz.prog 63 #[.string (bs8 (fldL z0)), .int .u8 81] V fun e w' => e = .returned (.bool m81) ∧ w' = V) := hJz fun V => by rw [← hm81]; exact HHAS.out 81 V
 obtain ⟨m80, hm80⟩ : ∃ m, (fldL z0).contains 80 = m := ⟨_, rfl⟩;have HH80 : Hid (∀ V, Calls Tryz.prog 63 #[.string (bs8 (fldL z0)), .int .u8 80] V fun e w' => e = .returned (.bool m80) ∧ w' = V) := hJz fun V => by rw [← hm80]; exact HHAS.out 80 V
 obtain ⟨m78, hm78⟩ : ∃ m, (fldL z0).contains 78 = m := ⟨_, rfl⟩;have HH78 : Hid (∀ V, Calls Tryz.prog 63 #[.string (bs8 (fldL z0)), .int .u8 78] V fun e w' => e = .returned (.bool m78) ∧ w' = V) := hJz fun V => by rw [← hm78]; exact HHAS.out 78 V
 rw [hm77, hm73, hm65, hm84, hm68, hm85, hm79, hm81, hm80, hm78] at HIS;obtain ⟨c0, f0⟩ := hCB0.got (o := 0) (by decide);obtain ⟨c1, f1⟩ := hCB0.got (o := 1) (by decide);obtain ⟨c2, f2⟩ := hCB0.got (o := 2) (by decide);obtain ⟨c3, f3⟩ := hCB0.got (o := 3) (by decide);obtain ⟨c4, f4⟩ := hCB0.got (o := 4) (by decide);obtain ⟨c5, f5⟩ := hCB0.got (o := 5) (by decide);obtain ⟨c6, f6⟩ := hCB0.got (o := 6) (by decide);obtain ⟨c7, f7⟩ := hCB0.got (o := 7) (by decide);obtain ⟨c8, f8⟩ := hCB0.got (o := 8) (by decide);obtain ⟨c9, f9⟩ := hCB0.got (o := 9) (by decide);obtain ⟨c10, f10⟩ := hCB0.got (o := 10) (by decide);obtain ⟨c11, f11⟩ := hCB0.got (o := 11) (by decide);obtain ⟨c12, f12⟩ := hCB0.got (o := 12) (by decide);obtain ⟨cv, fv⟩ := hCB0.gotV;simp only [List.getD_cons_zero, List.getD_cons_succ] at c0 c1 c2 c3 c4 c5 c6 c7 c8 c9 c10 c11 c12;have hlt := hCB0.lt;clear hRES HHAS hCB0 hm77 hm73 hm65 hm84 hm68 hm85 hm79 hm81 hm80 hm78;obtain ⟨L, hL⟩ : ∃ L, fldL z0 = L := ⟨_, rfl⟩;rw [hL] at HH77 HH73 HH65 HH84 HH68 HH85 HH79 HH81 HH80 HH78 hL5;have HL := hJz hL;clear hL hL5
 have HFACT : Hid (∀ V, Below (b + 1) (w.alloc (.cells #[.int .i64 z0, .int .i64 z1, .int .i64 z2, .int .i64 z3, .int .i64 z4, .int .i64 z5, .int .i64 z6, .int .i64 z7, .int .i64 z8, .int .i64 z9, .int .i64 z10, .int .i64 z11, .int .i64 z12, .slice A n cap] 26)) V → V.cell? ⟨b, 0, none⟩ = some (.int .i64 z0) ∧ V.cell? ⟨b, 1, none⟩ = some (.int .i64 z1) ∧ V.cell? ⟨b, 2, none⟩ = some (.int .i64 z2) ∧ V.cell? ⟨b, 3, none⟩ = some (.int .i64 z3) ∧ V.cell? ⟨b, 4, none⟩ = some (.int .i64 z4) ∧ V.cell? ⟨b, 5, none⟩ = some (.int .i64 z5) ∧ V.cell? ⟨b, 6, none⟩ = some (.int .i64 z6) ∧ V.cell? ⟨b, 7, none⟩ = some (.int .i64 z7) ∧ V.cell? ⟨b, 8, none⟩ = some (.int .i64 z8) ∧ V.cell? ⟨b, 9, none⟩ = some (.int .i64 z9) ∧ V.cell? ⟨b, 10, none⟩ = some (.int .i64 z10) ∧ V.cell? ⟨b, 11, none⟩ = some (.int .i64 z11) ∧ V.cell? ⟨b, 12, none⟩ = some (.int .i64 z12) ∧ V.cell? ⟨b, 13, none⟩ = some (.slice A n cap) ∧ b < V.heap.size) := hJz fun V hV => by
  have h := fun o => hV.cell (p := ⟨b, o, none⟩) (Nat.lt_succ_self b);exact ⟨(h 0).trans c0, (h 1).trans c1, (h 2).trans c2, (h 3).trans c3, (h 4).trans c4, (h 5).trans c5, (h 6).trans c6, (h 7).trans c7, (h 8).trans c8, (h 9).trans c9, (h 10).trans c10, (h 11).trans c11, (h 12).trans c12, (h 13).trans cv, Nat.lt_of_lt_of_le hlt hV.size⟩
 have HSZ1 : Hid ((w.alloc (.cells #[.int .i64 z0, .int .i64 z1, .int .i64 z2, .int .i64 z3, .int .i64 z4, .int .i64 z5, .int .i64 z6, .int .i64 z7, .int .i64 z8, .int .i64 z9, .int .i64 z10, .int .i64 z11, .int .i64 z12, .slice A n cap] 26)).heap.size = b + 1) := hJz (by rw [World.size_alloc, HBW.out]);go_enter Tryz.func34, Tryz.ntmps34;go_upto_region 1 with fail;rw [HBW.out];generalize w.alloc (.cells #[.int .i64 z0, .int .i64 z1, .int .i64 z2, .int .i64 z3, .int .i64 z4, .int .i64 z5, .int .i64 z6, .int .i64 z7, .int .i64 z8, .int .i64 z9, .int .i64 z10, .int .i64 z11, .int .i64 z12, .slice A n cap] 26) = W1 at *;go_wp2_with fail;refine (HF.out _).mono ?_;rintro e v1 ⟨rfl, hb1⟩;rw [HL.out];rw [HSZ1.out] at hb1;have hB1 : Below b w v1 := hB0.trans (hb1.mono (Nat.le_succ b));clear c0 f0 c1 f1 c2 f2 c3 f3 c4 f4 c5 f5 c6 f6 c7 f7 c8 f8 c9 f9 c10 f10 c11 f11 c12 f12 cv fv hlt hB0 HF;obtain ⟨c0, c1, c2, c3, c4, c5, c6, c7, c8, c9, c10, c11, c12, cv, hlt⟩ := HFACT.out v1 hb1;clear hb1 HFACT
 by_cases p0 : z0 < 1
 ·have hR : RES = false := by
   rw [HIS.out, decide_eq_false (fun h => by omega)];simp only [Bool.false_and]
  subst hR;go_wp2_with fail;go_ret;exact ⟨rfl, hB1⟩
 by_cases p1 : 31 < z0
 ·have hR : RES = false := by
   rw [HIS.out, decide_eq_false (fun h => by omega)];simp only [Bool.false_and]
  subst hR;go_wp2_with fail;go_ret;exact ⟨rfl, hB1⟩
 by_cases p2 : z1 < 0
 ·have hR : RES = false := by
   rw [HIS.out, decide_eq_false (fun h => by omega)];simp only [Bool.false_and]
  subst hR;go_wp2_with fail;go_ret;exact ⟨rfl, hB1⟩
 by_cases p3 : 8 < z1
 ·have hR : RES = false := by
   rw [HIS.out, decide_eq_false (fun h => by omega)];simp only [Bool.false_and]
  subst hR;go_wp2_with fail;go_ret;exact ⟨rfl, hB1⟩
 have HFACT : Hid (∀ V, Below v1.heap.size v1 V → V.cell? ⟨b, 0, none⟩ = some (.int .i64 z0) ∧ V.cell? ⟨b, 1, none⟩ = some (.int .i64 z1) ∧ V.cell? ⟨b, 2, none⟩ = some (.int .i64 z2) ∧ V.cell? ⟨b, 3, none⟩ = some (.int .i64 z3) ∧ V.cell? ⟨b, 4, none⟩ = some (.int .i64 z4) ∧ V.cell? ⟨b, 5, none⟩ = some (.int .i64 z5) ∧ V.cell? ⟨b, 6, none⟩ = some (.int .i64 z6) ∧ V.cell? ⟨b, 7, none⟩ = some (.int .i64 z7) ∧ V.cell? ⟨b, 8, none⟩ = some (.int .i64 z8) ∧ V.cell? ⟨b, 9, none⟩ = some (.int .i64 z9) ∧ V.cell? ⟨b, 10, none⟩ = some (.int .i64 z10) ∧ V.cell? ⟨b, 11, none⟩ = some (.int .i64 z11) ∧ V.cell? ⟨b, 12, none⟩ = some (.int .i64 z12) ∧ V.cell? ⟨b, 13, none⟩ = some (.slice A n cap) ∧ b < V.heap.size) := hJz fun V hV => by
  have h := fun o => hV.cell (p := ⟨b, o, none⟩) hlt;exact ⟨(h 0).trans c0, (h 1).trans c1, (h 2).trans c2, (h 3).trans c3, (h 4).trans c4, (h 5).trans c5, (h 6).trans c6, (h 7).trans c7, (h 8).trans c8, (h 9).trans c9, (h 10).trans c10, (h 11).trans c11, (h 12).trans c12, (h 13).trans cv, Nat.lt_of_lt_of_le hlt hV.size⟩
 have hltb := Nat.le_of_lt hlt;by_cases t2 : wthI z2 8 m77 = true
 case neg =>
  have t2 : wthI z2 8 m77 = false := by simpa using t2
  have hR : RES = false := by
   rw [HIS.out, t2];simp only [Bool.false_and, Bool.and_false]
  subst hR;have HC0 := HH77
  have HC1 : Hid (∀ V, Calls Tryz.prog 62 #[.int .i64 z2, .int .i64 8, .bool m77] V fun e w' => e = .returned (.bool false) ∧ w' = V) := hJz fun V => by
   have h := HWT.out z2 8 m77 V
   rwa [t2] at h
  have HC2 := HC0;have HC3 := HC0;have HC4 := HC0;have HC5 := HC0;have HC6 := HC0;have HC7 := HC0;have HC8 := HC0;have HC9 := HC0;go_upto_region 4 with fail;clear c0 c1 c2 c3 c4 c5 c6 c7 c8 c9 c10 c11 c12 cv hlt;refine wp_region_held_drew (S := (fun V => Below v1.heap.size v1 V)) (by kernel_rfl) (by exact (Below.refl _ _).drew) (fun hHeld => ?_);refine tkJ 0 25 rfl (by intro w; go_simp <;> with_reducible rfl) hHeld ?_; simp only [pqZ];refine tkI 1 26 rfl (by intro w hSw; obtain ⟨c0, c1, c2, c3, c4, c5, c6, c7, c8, c9, c10, c11, c12, cv, hlt⟩ := HFACT.out _ hSw; go_simp <;> with_reducible rfl) hHeld ?_; simp only [pqZ];refine tkJ 2 27 rfl (by intro w; go_simp <;> with_reducible rfl) hHeld ?_; simp only [pqZ];refine rdZ 3 28 rfl (by kernel_rfl) (fun K hK => ?_)
  go_simp
  refine (HC0.out _).mono ?_;rintro e vz ⟨rfl, rfl⟩;have hKeep := hHeld;go_wp2_with fail;refine hK.out _ _ (by (try dsimp only); exact hKeep) (fun hHeld => ?_); clear hK K hKeep; try simp only [pqZ]
  refine rdZ 4 29 rfl (by kernel_rfl) (fun K hK => ?_)
  go_simp
  refine (HC1.out _).mono ?_;rintro e vz ⟨rfl, rfl⟩;have hKeep := hHeld;go_wp2_with fail;refine hK.out _ _ (by (try dsimp only); exact hKeep) (fun hHeld => ?_); clear hK K hKeep; try simp only [pqZ]
  refine tkJ 5 30 rfl (by intro w; go_simp <;> with_reducible rfl) hHeld ?_; simp only [pqZ];refine tkJ 6 31 rfl (by intro w; go_simp <;> with_reducible rfl) hHeld ?_; simp only [pqZ];refine tkO 7 32 rfl (by kernel_rfl) (by rfl) hHeld ?_; simp only [pqZ];refine tkO 8 33 rfl (by kernel_rfl) (by rfl) hHeld ?_; simp only [pqZ];refine tkO 9 34 rfl (by kernel_rfl) (by rfl) hHeld ?_; simp only [pqZ];refine tkO 10 35 rfl (by kernel_rfl) (by rfl) hHeld ?_; simp only [pqZ];refine tkO 11 36 rfl (by kernel_rfl) (by rfl) hHeld ?_; simp only [pqZ];refine tkO 12 37 rfl (by kernel_rfl) (by rfl) hHeld ?_; simp only [pqZ];refine tkJ 13 38 rfl (by intro w; go_simp <;> with_reducible rfl) hHeld ?_; simp only [pqZ];refine tkJ 14 39 rfl (by intro w; go_simp <;> with_reducible rfl) hHeld ?_; simp only [pqZ];refine tkO 15 40 rfl (by kernel_rfl) (by rfl) hHeld ?_; simp only [pqZ];refine tkO 16 41 rfl (by kernel_rfl) (by rfl) hHeld ?_; simp only [pqZ];refine tkO 17 42 rfl (by kernel_rfl) (by rfl) hHeld ?_; simp only [pqZ];refine tkO 18 43 rfl (by kernel_rfl) (by rfl) hHeld ?_; simp only [pqZ];refine tkO 19 44 rfl (by kernel_rfl) (by rfl) hHeld ?_; simp only [pqZ];refine tkO 20 45 rfl (by kernel_rfl) (by rfl) hHeld ?_; simp only [pqZ];refine tkJ 21 46 rfl (by intro w; go_simp <;> with_reducible rfl) hHeld ?_; simp only [pqZ];refine tkJ 22 47 rfl (by intro w; go_simp <;> with_reducible rfl) hHeld ?_; simp only [pqZ];refine tkO 23 48 rfl (by kernel_rfl) (by rfl) hHeld ?_; simp only [pqZ];refine tkO 24 49 rfl (by kernel_rfl) (by rfl) hHeld ?_; simp only [pqZ];refine tkO 25 50 rfl (by kernel_rfl) (by rfl) hHeld ?_; simp only [pqZ];refine tkO 26 51 rfl (by kernel_rfl) (by rfl) hHeld ?_; simp only [pqZ];refine tkO 27 52 rfl (by kernel_rfl) (by rfl) hHeld ?_; simp only [pqZ];refine tkO 28 53 rfl (by kernel_rfl) (by rfl) hHeld ?_; simp only [pqZ];refine tkJ 29 54 rfl (by intro w; go_simp <;> with_reducible rfl) hHeld ?_; simp only [pqZ];refine tkJ 30 55 rfl (by intro w; go_simp <;> with_reducible rfl) hHeld ?_; simp only [pqZ];refine tkO 31 56 rfl (by kernel_rfl) (by rfl) hHeld ?_; simp only [pqZ];refine tkO 32 57 rfl (by kernel_rfl) (by rfl) hHeld ?_; simp only [pqZ];refine tkO 33 58 rfl (by kernel_rfl) (by rfl) hHeld ?_; simp only [pqZ];refine tkO 34 59 rfl (by kernel_rfl) (by rfl) hHeld ?_; simp only [pqZ];refine tkO 35 60 rfl (by kernel_rfl) (by rfl) hHeld ?_; simp only [pqZ];refine tkO 36 61 rfl (by kernel_rfl) (by rfl) hHeld ?_; simp only [pqZ];refine tkJ 37 62 rfl (by intro w; go_simp <;> with_reducible rfl) hHeld ?_; simp only [pqZ];refine wpAnyH_done (by kernel_rfl) ?_ _;go_wp2_with fail;go_ret;exact ⟨rfl, hB1.trans (hHeld.mono hltb)⟩
 by_cases t7 : wthI z7 8 m73 = true
 case neg =>
  have t7 : wthI z7 8 m73 = false := by simpa using t7
  have hR : RES = false := by
   rw [HIS.out, t7];simp only [Bool.false_and, Bool.and_false]
  subst hR;have HC0 := HH77
  have HC1 : Hid (∀ V, Calls Tryz.prog 62 #[.int .i64 z2, .int .i64 8, .bool m77] V fun e w' => e = .returned (.bool true) ∧ w' = V) := hJz fun V => by
   have h := HWT.out z2 8 m77 V
   rwa [t2] at h
  have HC2 := HH73
  have HC3 : Hid (∀ V, Calls Tryz.prog 62 #[.int .i64 z7, .int .i64 8, .bool m73] V fun e w' => e = .returned (.bool false) ∧ w' = V) := hJz fun V => by
   have h := HWT.out z7 8 m73 V
   rwa [t7] at h
  have HC4 := HC0;have HC5 := HC0;have HC6 := HC0;have HC7 := HC0;have HC8 := HC0;have HC9 := HC0;go_upto_region 4 with fail;clear c0 c1 c2 c3 c4 c5 c6 c7 c8 c9 c10 c11 c12 cv hlt;refine wp_region_held_drew (S := (fun V => Below v1.heap.size v1 V)) (by kernel_rfl) (by exact (Below.refl _ _).drew) (fun hHeld => ?_);refine tkJ 0 25 rfl (by intro w; go_simp <;> with_reducible rfl) hHeld ?_; simp only [pqZ];refine tkI 1 26 rfl (by intro w hSw; obtain ⟨c0, c1, c2, c3, c4, c5, c6, c7, c8, c9, c10, c11, c12, cv, hlt⟩ := HFACT.out _ hSw; go_simp <;> with_reducible rfl) hHeld ?_; simp only [pqZ];refine tkJ 2 27 rfl (by intro w; go_simp <;> with_reducible rfl) hHeld ?_; simp only [pqZ];refine rdZ 3 28 rfl (by kernel_rfl) (fun K hK => ?_)
  go_simp
  refine (HC0.out _).mono ?_;rintro e vz ⟨rfl, rfl⟩;have hKeep := hHeld;go_wp2_with fail;refine hK.out _ _ (by (try dsimp only); exact hKeep) (fun hHeld => ?_); clear hK K hKeep; try simp only [pqZ]
  refine rdZ 4 29 rfl (by kernel_rfl) (fun K hK => ?_)
  go_simp
  refine (HC1.out _).mono ?_;rintro e vz ⟨rfl, rfl⟩;have hKeep := hHeld;go_wp2_with fail;refine hK.out _ _ (by (try dsimp only); exact hKeep) (fun hHeld => ?_); clear hK K hKeep; try simp only [pqZ]
  refine tkJ 5 30 rfl (by intro w; go_simp <;> with_reducible rfl) hHeld ?_; simp only [pqZ];refine tkJ 6 31 rfl (by intro w; go_simp <;> with_reducible rfl) hHeld ?_; simp only [pqZ];refine tkJ 7 32 rfl (by intro w; go_simp <;> with_reducible rfl) hHeld ?_; simp only [pqZ];refine tkI 8 33 rfl (by intro w hSw; obtain ⟨c0, c1, c2, c3, c4, c5, c6, c7, c8, c9, c10, c11, c12, cv, hlt⟩ := HFACT.out _ hSw; go_simp <;> with_reducible rfl) hHeld ?_; simp only [pqZ];refine tkJ 9 34 rfl (by intro w; go_simp <;> with_reducible rfl) hHeld ?_; simp only [pqZ];refine rdZ 10 35 rfl (by kernel_rfl) (fun K hK => ?_)
  go_simp
  refine (HC2.out _).mono ?_;rintro e vz ⟨rfl, rfl⟩;have hKeep := hHeld;go_wp2_with fail;refine hK.out _ _ (by (try dsimp only); exact hKeep) (fun hHeld => ?_); clear hK K hKeep; try simp only [pqZ]
  refine rdZ 11 36 rfl (by kernel_rfl) (fun K hK => ?_)
  go_simp
  refine (HC3.out _).mono ?_;rintro e vz ⟨rfl, rfl⟩;have hKeep := hHeld;go_wp2_with fail;refine hK.out _ _ (by (try dsimp only); exact hKeep) (fun hHeld => ?_); clear hK K hKeep; try simp only [pqZ]
  refine tkJ 12 37 rfl (by intro w; go_simp <;> with_reducible rfl) hHeld ?_; simp only [pqZ];refine tkJ 13 38 rfl (by intro w; go_simp <;> with_reducible rfl) hHeld ?_; simp only [pqZ];refine tkJ 14 39 rfl (by intro w; go_simp <;> with_reducible rfl) hHeld ?_; simp only [pqZ];refine tkO 15 40 rfl (by kernel_rfl) (by rfl) hHeld ?_; simp only [pqZ];refine tkO 16 41 rfl (by kernel_rfl) (by rfl) hHeld ?_; simp only [pqZ];refine tkO 17 42 rfl (by kernel_rfl) (by rfl) hHeld ?_; simp only [pqZ];refine tkO 18 43 rfl (by kernel_rfl) (by rfl) hHeld ?_; simp only [pqZ];refine tkO 19 44 rfl (by kernel_rfl) (by rfl) hHeld ?_; simp only [pqZ];refine tkO 20 45 rfl (by kernel_rfl) (by rfl) hHeld ?_; simp only [pqZ];refine tkJ 21 46 rfl (by intro w; go_simp <;> with_reducible rfl) hHeld ?_; simp only [pqZ];refine tkJ 22 47 rfl (by intro w; go_simp <;> with_reducible rfl) hHeld ?_; simp only [pqZ];refine tkO 23 48 rfl (by kernel_rfl) (by rfl) hHeld ?_; simp only [pqZ];refine tkO 24 49 rfl (by kernel_rfl) (by rfl) hHeld ?_; simp only [pqZ];refine tkO 25 50 rfl (by kernel_rfl) (by rfl) hHeld ?_; simp only [pqZ];refine tkO 26 51 rfl (by kernel_rfl) (by rfl) hHeld ?_; simp only [pqZ];refine tkO 27 52 rfl (by kernel_rfl) (by rfl) hHeld ?_; simp only [pqZ];refine tkO 28 53 rfl (by kernel_rfl) (by rfl) hHeld ?_; simp only [pqZ];refine tkJ 29 54 rfl (by intro w; go_simp <;> with_reducible rfl) hHeld ?_; simp only [pqZ];refine tkJ 30 55 rfl (by intro w; go_simp <;> with_reducible rfl) hHeld ?_; simp only [pqZ];refine tkO 31 56 rfl (by kernel_rfl) (by rfl) hHeld ?_; simp only [pqZ];refine tkO 32 57 rfl (by kernel_rfl) (by rfl) hHeld ?_; simp only [pqZ];refine tkO 33 58 rfl (by kernel_rfl) (by rfl) hHeld ?_; simp only [pqZ];refine tkO 34 59 rfl (by kernel_rfl) (by rfl) hHeld ?_; simp only [pqZ];refine tkO 35 60 rfl (by kernel_rfl) (by rfl) hHeld ?_; simp only [pqZ];refine tkO 36 61 rfl (by kernel_rfl) (by rfl) hHeld ?_; simp only [pqZ];refine tkJ 37 62 rfl (by intro w; go_simp <;> with_reducible rfl) hHeld ?_; simp only [pqZ];refine wpAnyH_done (by kernel_rfl) ?_ _;go_wp2_with fail;go_ret;exact ⟨rfl, hB1.trans (hHeld.mono hltb)⟩
 by_cases t8 : wthI z8 4 m65 = true
 case neg =>
  have t8 : wthI z8 4 m65 = false := by simpa using t8
  have hR : RES = false := by
   rw [HIS.out, t8];simp only [Bool.false_and, Bool.and_false]
  subst hR;have HC0 := HH77
  have HC1 : Hid (∀ V, Calls Tryz.prog 62 #[.int .i64 z2, .int .i64 8, .bool m77] V fun e w' => e = .returned (.bool true) ∧ w' = V) := hJz fun V => by
   have h := HWT.out z2 8 m77 V
   rwa [t2] at h
  have HC2 := HH73
  have HC3 : Hid (∀ V, Calls Tryz.prog 62 #[.int .i64 z7, .int .i64 8, .bool m73] V fun e w' => e = .returned (.bool true) ∧ w' = V) := hJz fun V => by
   have h := HWT.out z7 8 m73 V
   rwa [t7] at h
  have HC4 := HH65
  have HC5 : Hid (∀ V, Calls Tryz.prog 62 #[.int .i64 z8, .int .i64 4, .bool m65] V fun e w' => e = .returned (.bool false) ∧ w' = V) := hJz fun V => by
   have h := HWT.out z8 4 m65 V
   rwa [t8] at h
  have HC6 := HC0;have HC7 := HC0;have HC8 := HC0;have HC9 := HC0;go_upto_region 4 with fail;clear c0 c1 c2 c3 c4 c5 c6 c7 c8 c9 c10 c11 c12 cv hlt;refine wp_region_held_drew (S := (fun V => Below v1.heap.size v1 V)) (by kernel_rfl) (by exact (Below.refl _ _).drew) (fun hHeld => ?_);refine tkJ 0 25 rfl (by intro w; go_simp <;> with_reducible rfl) hHeld ?_; simp only [pqZ];refine tkI 1 26 rfl (by intro w hSw; obtain ⟨c0, c1, c2, c3, c4, c5, c6, c7, c8, c9, c10, c11, c12, cv, hlt⟩ := HFACT.out _ hSw; go_simp <;> with_reducible rfl) hHeld ?_; simp only [pqZ];refine tkJ 2 27 rfl (by intro w; go_simp <;> with_reducible rfl) hHeld ?_; simp only [pqZ];refine rdZ 3 28 rfl (by kernel_rfl) (fun K hK => ?_)
  go_simp
  refine (HC0.out _).mono ?_;rintro e vz ⟨rfl, rfl⟩;have hKeep := hHeld;go_wp2_with fail;refine hK.out _ _ (by (try dsimp only); exact hKeep) (fun hHeld => ?_); clear hK K hKeep; try simp only [pqZ]
  refine rdZ 4 29 rfl (by kernel_rfl) (fun K hK => ?_)
  go_simp
  refine (HC1.out _).mono ?_;rintro e vz ⟨rfl, rfl⟩;have hKeep := hHeld;go_wp2_with fail;refine hK.out _ _ (by (try dsimp only); exact hKeep) (fun hHeld => ?_); clear hK K hKeep; try simp only [pqZ]
  refine tkJ 5 30 rfl (by intro w; go_simp <;> with_reducible rfl) hHeld ?_; simp only [pqZ];refine tkJ 6 31 rfl (by intro w; go_simp <;> with_reducible rfl) hHeld ?_; simp only [pqZ];refine tkJ 7 32 rfl (by intro w; go_simp <;> with_reducible rfl) hHeld ?_; simp only [pqZ];refine tkI 8 33 rfl (by intro w hSw; obtain ⟨c0, c1, c2, c3, c4, c5, c6, c7, c8, c9, c10, c11, c12, cv, hlt⟩ := HFACT.out _ hSw; go_simp <;> with_reducible rfl) hHeld ?_; simp only [pqZ];refine tkJ 9 34 rfl (by intro w; go_simp <;> with_reducible rfl) hHeld ?_; simp only [pqZ];refine rdZ 10 35 rfl (by kernel_rfl) (fun K hK => ?_)
  go_simp
  refine (HC2.out _).mono ?_;rintro e vz ⟨rfl, rfl⟩;have hKeep := hHeld;go_wp2_with fail;refine hK.out _ _ (by (try dsimp only); exact hKeep) (fun hHeld => ?_); clear hK K hKeep; try simp only [pqZ]
  refine rdZ 11 36 rfl (by kernel_rfl) (fun K hK => ?_)
  go_simp
  refine (HC3.out _).mono ?_;rintro e vz ⟨rfl, rfl⟩;have hKeep := hHeld;go_wp2_with fail;refine hK.out _ _ (by (try dsimp only); exact hKeep) (fun hHeld => ?_); clear hK K hKeep; try simp only [pqZ]
  refine tkJ 12 37 rfl (by intro w; go_simp <;> with_reducible rfl) hHeld ?_; simp only [pqZ];refine tkJ 13 38 rfl (by intro w; go_simp <;> with_reducible rfl) hHeld ?_; simp only [pqZ];refine tkJ 14 39 rfl (by intro w; go_simp <;> with_reducible rfl) hHeld ?_; simp only [pqZ];refine tkJ 15 40 rfl (by intro w; go_simp <;> with_reducible rfl) hHeld ?_; simp only [pqZ];refine tkI 16 41 rfl (by intro w hSw; obtain ⟨c0, c1, c2, c3, c4, c5, c6, c7, c8, c9, c10, c11, c12, cv, hlt⟩ := HFACT.out _ hSw; go_simp <;> with_reducible rfl) hHeld ?_; simp only [pqZ];refine tkJ 17 42 rfl (by intro w; go_simp <;> with_reducible rfl) hHeld ?_; simp only [pqZ];refine rdZ 18 43 rfl (by kernel_rfl) (fun K hK => ?_)
  go_simp
  refine (HC4.out _).mono ?_;rintro e vz ⟨rfl, rfl⟩;have hKeep := hHeld;go_wp2_with fail;refine hK.out _ _ (by (try dsimp only); exact hKeep) (fun hHeld => ?_); clear hK K hKeep; try simp only [pqZ]
  refine rdZ 19 44 rfl (by kernel_rfl) (fun K hK => ?_)
  go_simp
  refine (HC5.out _).mono ?_;rintro e vz ⟨rfl, rfl⟩;have hKeep := hHeld;go_wp2_with fail;refine hK.out _ _ (by (try dsimp only); exact hKeep) (fun hHeld => ?_); clear hK K hKeep; try simp only [pqZ]
  refine tkJ 20 45 rfl (by intro w; go_simp <;> with_reducible rfl) hHeld ?_; simp only [pqZ];refine tkJ 21 46 rfl (by intro w; go_simp <;> with_reducible rfl) hHeld ?_; simp only [pqZ];refine tkJ 22 47 rfl (by intro w; go_simp <;> with_reducible rfl) hHeld ?_; simp only [pqZ];refine tkO 23 48 rfl (by kernel_rfl) (by rfl) hHeld ?_; simp only [pqZ];refine tkO 24 49 rfl (by kernel_rfl) (by rfl) hHeld ?_; simp only [pqZ];refine tkO 25 50 rfl (by kernel_rfl) (by rfl) hHeld ?_; simp only [pqZ];refine tkO 26 51 rfl (by kernel_rfl) (by rfl) hHeld ?_; simp only [pqZ];refine tkO 27 52 rfl (by kernel_rfl) (by rfl) hHeld ?_; simp only [pqZ];refine tkO 28 53 rfl (by kernel_rfl) (by rfl) hHeld ?_; simp only [pqZ];refine tkJ 29 54 rfl (by intro w; go_simp <;> with_reducible rfl) hHeld ?_; simp only [pqZ];refine tkJ 30 55 rfl (by intro w; go_simp <;> with_reducible rfl) hHeld ?_; simp only [pqZ];refine tkO 31 56 rfl (by kernel_rfl) (by rfl) hHeld ?_; simp only [pqZ];refine tkO 32 57 rfl (by kernel_rfl) (by rfl) hHeld ?_; simp only [pqZ];refine tkO 33 58 rfl (by kernel_rfl) (by rfl) hHeld ?_; simp only [pqZ];refine tkO 34 59 rfl (by kernel_rfl) (by rfl) hHeld ?_; simp only [pqZ];refine tkO 35 60 rfl (by kernel_rfl) (by rfl) hHeld ?_; simp only [pqZ];refine tkO 36 61 rfl (by kernel_rfl) (by rfl) hHeld ?_; simp only [pqZ];refine tkJ 37 62 rfl (by intro w; go_simp <;> with_reducible rfl) hHeld ?_; simp only [pqZ];refine wpAnyH_done (by kernel_rfl) ?_ _;go_wp2_with fail;go_ret;exact ⟨rfl, hB1.trans (hHeld.mono hltb)⟩
 by_cases t9 : wthI z9 255 m84 = true
 case neg =>
  have t9 : wthI z9 255 m84 = false := by simpa using t9
  have hR : RES = false := by
   rw [HIS.out, t9];simp only [Bool.false_and, Bool.and_false]
  subst hR;have HC0 := HH77
  have HC1 : Hid (∀ V, Calls Tryz.prog 62 #[.int .i64 z2, .int .i64 8, .bool m77] V fun e w' => e = .returned (.bool true) ∧ w' = V) := hJz fun V => by
   have h := HWT.out z2 8 m77 V
   rwa [t2] at h
  have HC2 := HH73
  have HC3 : Hid (∀ V, Calls Tryz.prog 62 #[.int .i64 z7, .int .i64 8, .bool m73] V fun e w' => e = .returned (.bool true) ∧ w' = V) := hJz fun V => by
   have h := HWT.out z7 8 m73 V
   rwa [t7] at h
  have HC4 := HH65
  have HC5 : Hid (∀ V, Calls Tryz.prog 62 #[.int .i64 z8, .int .i64 4, .bool m65] V fun e w' => e = .returned (.bool true) ∧ w' = V) := hJz fun V => by
   have h := HWT.out z8 4 m65 V
   rwa [t8] at h
  have HC6 := HH84
  have HC7 : Hid (∀ V, Calls Tryz.prog 62 #[.int .i64 z9, .int .i64 255, .bool m84] V fun e w' => e = .returned (.bool false) ∧ w' = V) := hJz fun V => by
   have h := HWT.out z9 255 m84 V
   rwa [t9] at h
  have HC8 := HC0;have HC9 := HC0;go_upto_region 4 with fail;clear c0 c1 c2 c3 c4 c5 c6 c7 c8 c9 c10 c11 c12 cv hlt;refine wp_region_held_drew (S := (fun V => Below v1.heap.size v1 V)) (by kernel_rfl) (by exact (Below.refl _ _).drew) (fun hHeld => ?_);refine tkJ 0 25 rfl (by intro w; go_simp <;> with_reducible rfl) hHeld ?_; simp only [pqZ];refine tkI 1 26 rfl (by intro w hSw; obtain ⟨c0, c1, c2, c3, c4, c5, c6, c7, c8, c9, c10, c11, c12, cv, hlt⟩ := HFACT.out _ hSw; go_simp <;> with_reducible rfl) hHeld ?_; simp only [pqZ];refine tkJ 2 27 rfl (by intro w; go_simp <;> with_reducible rfl) hHeld ?_; simp only [pqZ];refine rdZ 3 28 rfl (by kernel_rfl) (fun K hK => ?_)
  go_simp
  refine (HC0.out _).mono ?_;rintro e vz ⟨rfl, rfl⟩;have hKeep := hHeld;go_wp2_with fail;refine hK.out _ _ (by (try dsimp only); exact hKeep) (fun hHeld => ?_); clear hK K hKeep; try simp only [pqZ]
  refine rdZ 4 29 rfl (by kernel_rfl) (fun K hK => ?_)
  go_simp
  refine (HC1.out _).mono ?_;rintro e vz ⟨rfl, rfl⟩;have hKeep := hHeld;go_wp2_with fail;refine hK.out _ _ (by (try dsimp only); exact hKeep) (fun hHeld => ?_); clear hK K hKeep; try simp only [pqZ]
  refine tkJ 5 30 rfl (by intro w; go_simp <;> with_reducible rfl) hHeld ?_; simp only [pqZ];refine tkJ 6 31 rfl (by intro w; go_simp <;> with_reducible rfl) hHeld ?_; simp only [pqZ];refine tkJ 7 32 rfl (by intro w; go_simp <;> with_reducible rfl) hHeld ?_; simp only [pqZ];refine tkI 8 33 rfl (by intro w hSw; obtain ⟨c0, c1, c2, c3, c4, c5, c6, c7, c8, c9, c10, c11, c12, cv, hlt⟩ := HFACT.out _ hSw; go_simp <;> with_reducible rfl) hHeld ?_; simp only [pqZ];refine tkJ 9 34 rfl (by intro w; go_simp <;> with_reducible rfl) hHeld ?_; simp only [pqZ];refine rdZ 10 35 rfl (by kernel_rfl) (fun K hK => ?_)
  go_simp
  refine (HC2.out _).mono ?_;rintro e vz ⟨rfl, rfl⟩;have hKeep := hHeld;go_wp2_with fail;refine hK.out _ _ (by (try dsimp only); exact hKeep) (fun hHeld => ?_); clear hK K hKeep; try simp only [pqZ]
  refine rdZ 11 36 rfl (by kernel_rfl) (fun K hK => ?_)
  go_simp
  refine (HC3.out _).mono ?_;rintro e vz ⟨rfl, rfl⟩;have hKeep := hHeld;go_wp2_with fail;refine hK.out _ _ (by (try dsimp only); exact hKeep) (fun hHeld => ?_); clear hK K hKeep; try simp only [pqZ]
  refine tkJ 12 37 rfl (by intro w; go_simp <;> with_reducible rfl) hHeld ?_; simp only [pqZ];refine tkJ 13 38 rfl (by intro w; go_simp <;> with_reducible rfl) hHeld ?_; simp only [pqZ];refine tkJ 14 39 rfl (by intro w; go_simp <;> with_reducible rfl) hHeld ?_; simp only [pqZ];refine tkJ 15 40 rfl (by intro w; go_simp <;> with_reducible rfl) hHeld ?_; simp only [pqZ];refine tkI 16 41 rfl (by intro w hSw; obtain ⟨c0, c1, c2, c3, c4, c5, c6, c7, c8, c9, c10, c11, c12, cv, hlt⟩ := HFACT.out _ hSw; go_simp <;> with_reducible rfl) hHeld ?_; simp only [pqZ];refine tkJ 17 42 rfl (by intro w; go_simp <;> with_reducible rfl) hHeld ?_; simp only [pqZ];refine rdZ 18 43 rfl (by kernel_rfl) (fun K hK => ?_)
  go_simp
  refine (HC4.out _).mono ?_;rintro e vz ⟨rfl, rfl⟩;have hKeep := hHeld;go_wp2_with fail;refine hK.out _ _ (by (try dsimp only); exact hKeep) (fun hHeld => ?_); clear hK K hKeep; try simp only [pqZ]
  refine rdZ 19 44 rfl (by kernel_rfl) (fun K hK => ?_)
  go_simp
  refine (HC5.out _).mono ?_;rintro e vz ⟨rfl, rfl⟩;have hKeep := hHeld;go_wp2_with fail;refine hK.out _ _ (by (try dsimp only); exact hKeep) (fun hHeld => ?_); clear hK K hKeep; try simp only [pqZ]
  refine tkJ 20 45 rfl (by intro w; go_simp <;> with_reducible rfl) hHeld ?_; simp only [pqZ];refine tkJ 21 46 rfl (by intro w; go_simp <;> with_reducible rfl) hHeld ?_; simp only [pqZ];refine tkJ 22 47 rfl (by intro w; go_simp <;> with_reducible rfl) hHeld ?_; simp only [pqZ];refine tkJ 23 48 rfl (by intro w; go_simp <;> with_reducible rfl) hHeld ?_; simp only [pqZ];refine tkI 24 49 rfl (by intro w hSw; obtain ⟨c0, c1, c2, c3, c4, c5, c6, c7, c8, c9, c10, c11, c12, cv, hlt⟩ := HFACT.out _ hSw; go_simp <;> with_reducible rfl) hHeld ?_; simp only [pqZ];refine tkJ 25 50 rfl (by intro w; go_simp <;> with_reducible rfl) hHeld ?_; simp only [pqZ];refine rdZ 26 51 rfl (by kernel_rfl) (fun K hK => ?_)
  go_simp
  refine (HC6.out _).mono ?_;rintro e vz ⟨rfl, rfl⟩;have hKeep := hHeld;go_wp2_with fail;refine hK.out _ _ (by (try dsimp only); exact hKeep) (fun hHeld => ?_); clear hK K hKeep; try simp only [pqZ]
  refine rdZ 27 52 rfl (by kernel_rfl) (fun K hK => ?_)
  go_simp
  refine (HC7.out _).mono ?_;rintro e vz ⟨rfl, rfl⟩;have hKeep := hHeld;go_wp2_with fail;refine hK.out _ _ (by (try dsimp only); exact hKeep) (fun hHeld => ?_); clear hK K hKeep; try simp only [pqZ]
  refine tkJ 28 53 rfl (by intro w; go_simp <;> with_reducible rfl) hHeld ?_; simp only [pqZ];refine tkJ 29 54 rfl (by intro w; go_simp <;> with_reducible rfl) hHeld ?_; simp only [pqZ];refine tkJ 30 55 rfl (by intro w; go_simp <;> with_reducible rfl) hHeld ?_; simp only [pqZ];refine tkO 31 56 rfl (by kernel_rfl) (by rfl) hHeld ?_; simp only [pqZ];refine tkO 32 57 rfl (by kernel_rfl) (by rfl) hHeld ?_; simp only [pqZ];refine tkO 33 58 rfl (by kernel_rfl) (by rfl) hHeld ?_; simp only [pqZ];refine tkO 34 59 rfl (by kernel_rfl) (by rfl) hHeld ?_; simp only [pqZ];refine tkO 35 60 rfl (by kernel_rfl) (by rfl) hHeld ?_; simp only [pqZ];refine tkO 36 61 rfl (by kernel_rfl) (by rfl) hHeld ?_; simp only [pqZ];refine tkJ 37 62 rfl (by intro w; go_simp <;> with_reducible rfl) hHeld ?_; simp only [pqZ];refine wpAnyH_done (by kernel_rfl) ?_ _;go_wp2_with fail;go_ret;exact ⟨rfl, hB1.trans (hHeld.mono hltb)⟩
 by_cases t10 : wthI z10 1048576 m68 = true
 case neg =>
  have t10 : wthI z10 1048576 m68 = false := by simpa using t10
  have hR : RES = false := by
   rw [HIS.out, t10];simp only [Bool.false_and, Bool.and_false]
  subst hR;have HC0 := HH77
  have HC1 : Hid (∀ V, Calls Tryz.prog 62 #[.int .i64 z2, .int .i64 8, .bool m77] V fun e w' => e = .returned (.bool true) ∧ w' = V) := hJz fun V => by
   have h := HWT.out z2 8 m77 V
   rwa [t2] at h
  have HC2 := HH73
  have HC3 : Hid (∀ V, Calls Tryz.prog 62 #[.int .i64 z7, .int .i64 8, .bool m73] V fun e w' => e = .returned (.bool true) ∧ w' = V) := hJz fun V => by
   have h := HWT.out z7 8 m73 V
   rwa [t7] at h
  have HC4 := HH65
  have HC5 : Hid (∀ V, Calls Tryz.prog 62 #[.int .i64 z8, .int .i64 4, .bool m65] V fun e w' => e = .returned (.bool true) ∧ w' = V) := hJz fun V => by
   have h := HWT.out z8 4 m65 V
   rwa [t8] at h
  have HC6 := HH84
  have HC7 : Hid (∀ V, Calls Tryz.prog 62 #[.int .i64 z9, .int .i64 255, .bool m84] V fun e w' => e = .returned (.bool true) ∧ w' = V) := hJz fun V => by
   have h := HWT.out z9 255 m84 V
   rwa [t9] at h
  have HC8 := HH68
  have HC9 : Hid (∀ V, Calls Tryz.prog 62 #[.int .i64 z10, .int .i64 1048576, .bool m68] V fun e w' => e = .returned (.bool false) ∧ w' = V) := hJz fun V => by
   have h := HWT.out z10 1048576 m68 V
   rwa [t10] at h
  go_upto_region 4 with fail;clear c0 c1 c2 c3 c4 c5 c6 c7 c8 c9 c10 c11 c12 cv hlt;refine wp_region_held_drew (S := (fun V => Below v1.heap.size v1 V)) (by kernel_rfl) (by exact (Below.refl _ _).drew) (fun hHeld => ?_);refine tkJ 0 25 rfl (by intro w; go_simp <;> with_reducible rfl) hHeld ?_; simp only [pqZ];refine tkI 1 26 rfl (by intro w hSw; obtain ⟨c0, c1, c2, c3, c4, c5, c6, c7, c8, c9, c10, c11, c12, cv, hlt⟩ := HFACT.out _ hSw; go_simp <;> with_reducible rfl) hHeld ?_; simp only [pqZ];refine tkJ 2 27 rfl (by intro w; go_simp <;> with_reducible rfl) hHeld ?_; simp only [pqZ];refine rdZ 3 28 rfl (by kernel_rfl) (fun K hK => ?_)
  go_simp
  refine (HC0.out _).mono ?_;rintro e vz ⟨rfl, rfl⟩;have hKeep := hHeld;go_wp2_with fail;refine hK.out _ _ (by (try dsimp only); exact hKeep) (fun hHeld => ?_); clear hK K hKeep; try simp only [pqZ]
  refine rdZ 4 29 rfl (by kernel_rfl) (fun K hK => ?_)
  go_simp
  refine (HC1.out _).mono ?_;rintro e vz ⟨rfl, rfl⟩;have hKeep := hHeld;go_wp2_with fail;refine hK.out _ _ (by (try dsimp only); exact hKeep) (fun hHeld => ?_); clear hK K hKeep; try simp only [pqZ]
  refine tkJ 5 30 rfl (by intro w; go_simp <;> with_reducible rfl) hHeld ?_; simp only [pqZ];refine tkJ 6 31 rfl (by intro w; go_simp <;> with_reducible rfl) hHeld ?_; simp only [pqZ];refine tkJ 7 32 rfl (by intro w; go_simp <;> with_reducible rfl) hHeld ?_; simp only [pqZ];refine tkI 8 33 rfl (by intro w hSw; obtain ⟨c0, c1, c2, c3, c4, c5, c6, c7, c8, c9, c10, c11, c12, cv, hlt⟩ := HFACT.out _ hSw; go_simp <;> with_reducible rfl) hHeld ?_; simp only [pqZ];refine tkJ 9 34 rfl (by intro w; go_simp <;> with_reducible rfl) hHeld ?_; simp only [pqZ];refine rdZ 10 35 rfl (by kernel_rfl) (fun K hK => ?_)
  go_simp
  refine (HC2.out _).mono ?_;rintro e vz ⟨rfl, rfl⟩;have hKeep := hHeld;go_wp2_with fail;refine hK.out _ _ (by (try dsimp only); exact hKeep) (fun hHeld => ?_); clear hK K hKeep; try simp only [pqZ]
  refine rdZ 11 36 rfl (by kernel_rfl) (fun K hK => ?_)
  go_simp
  refine (HC3.out _).mono ?_;rintro e vz ⟨rfl, rfl⟩;have hKeep := hHeld;go_wp2_with fail;refine hK.out _ _ (by (try dsimp only); exact hKeep) (fun hHeld => ?_); clear hK K hKeep; try simp only [pqZ]
  refine tkJ 12 37 rfl (by intro w; go_simp <;> with_reducible rfl) hHeld ?_; simp only [pqZ];refine tkJ 13 38 rfl (by intro w; go_simp <;> with_reducible rfl) hHeld ?_; simp only [pqZ];refine tkJ 14 39 rfl (by intro w; go_simp <;> with_reducible rfl) hHeld ?_; simp only [pqZ];refine tkJ 15 40 rfl (by intro w; go_simp <;> with_reducible rfl) hHeld ?_; simp only [pqZ];refine tkI 16 41 rfl (by intro w hSw; obtain ⟨c0, c1, c2, c3, c4, c5, c6, c7, c8, c9, c10, c11, c12, cv, hlt⟩ := HFACT.out _ hSw; go_simp <;> with_reducible rfl) hHeld ?_; simp only [pqZ];refine tkJ 17 42 rfl (by intro w; go_simp <;> with_reducible rfl) hHeld ?_; simp only [pqZ];refine rdZ 18 43 rfl (by kernel_rfl) (fun K hK => ?_)
  go_simp
  refine (HC4.out _).mono ?_;rintro e vz ⟨rfl, rfl⟩;have hKeep := hHeld;go_wp2_with fail;refine hK.out _ _ (by (try dsimp only); exact hKeep) (fun hHeld => ?_); clear hK K hKeep; try simp only [pqZ]
  refine rdZ 19 44 rfl (by kernel_rfl) (fun K hK => ?_)
  go_simp
  refine (HC5.out _).mono ?_;rintro e vz ⟨rfl, rfl⟩;have hKeep := hHeld;go_wp2_with fail;refine hK.out _ _ (by (try dsimp only); exact hKeep) (fun hHeld => ?_); clear hK K hKeep; try simp only [pqZ]
  refine tkJ 20 45 rfl (by intro w; go_simp <;> with_reducible rfl) hHeld ?_; simp only [pqZ];refine tkJ 21 46 rfl (by intro w; go_simp <;> with_reducible rfl) hHeld ?_; simp only [pqZ];refine tkJ 22 47 rfl (by intro w; go_simp <;> with_reducible rfl) hHeld ?_; simp only [pqZ];refine tkJ 23 48 rfl (by intro w; go_simp <;> with_reducible rfl) hHeld ?_; simp only [pqZ];refine tkI 24 49 rfl (by intro w hSw; obtain ⟨c0, c1, c2, c3, c4, c5, c6, c7, c8, c9, c10, c11, c12, cv, hlt⟩ := HFACT.out _ hSw; go_simp <;> with_reducible rfl) hHeld ?_; simp only [pqZ];refine tkJ 25 50 rfl (by intro w; go_simp <;> with_reducible rfl) hHeld ?_; simp only [pqZ];refine rdZ 26 51 rfl (by kernel_rfl) (fun K hK => ?_)
  go_simp
  refine (HC6.out _).mono ?_;rintro e vz ⟨rfl, rfl⟩;have hKeep := hHeld;go_wp2_with fail;refine hK.out _ _ (by (try dsimp only); exact hKeep) (fun hHeld => ?_); clear hK K hKeep; try simp only [pqZ]
  refine rdZ 27 52 rfl (by kernel_rfl) (fun K hK => ?_)
  go_simp
  refine (HC7.out _).mono ?_;rintro e vz ⟨rfl, rfl⟩;have hKeep := hHeld;go_wp2_with fail;refine hK.out _ _ (by (try dsimp only); exact hKeep) (fun hHeld => ?_); clear hK K hKeep; try simp only [pqZ]
  refine tkJ 28 53 rfl (by intro w; go_simp <;> with_reducible rfl) hHeld ?_; simp only [pqZ];refine tkJ 29 54 rfl (by intro w; go_simp <;> with_reducible rfl) hHeld ?_; simp only [pqZ];refine tkJ 30 55 rfl (by intro w; go_simp <;> with_reducible rfl) hHeld ?_; simp only [pqZ];refine tkJ 31 56 rfl (by intro w; go_simp <;> with_reducible rfl) hHeld ?_; simp only [pqZ];refine tkI 32 57 rfl (by intro w hSw; obtain ⟨c0, c1, c2, c3, c4, c5, c6, c7, c8, c9, c10, c11, c12, cv, hlt⟩ := HFACT.out _ hSw; go_simp <;> with_reducible rfl) hHeld ?_; simp only [pqZ];refine tkJ 33 58 rfl (by intro w; go_simp <;> with_reducible rfl) hHeld ?_; simp only [pqZ];refine rdZ 34 59 rfl (by kernel_rfl) (fun K hK => ?_)
  go_simp
  refine (HC8.out _).mono ?_;rintro e vz ⟨rfl, rfl⟩;have hKeep := hHeld;go_wp2_with fail;refine hK.out _ _ (by (try dsimp only); exact hKeep) (fun hHeld => ?_); clear hK K hKeep; try simp only [pqZ]
  refine rdZ 35 60 rfl (by kernel_rfl) (fun K hK => ?_)
  go_simp
  refine (HC9.out _).mono ?_;rintro e vz ⟨rfl, rfl⟩;have hKeep := hHeld;go_wp2_with fail;refine hK.out _ _ (by (try dsimp only); exact hKeep) (fun hHeld => ?_); clear hK K hKeep; try simp only [pqZ]
  refine tkJ 36 61 rfl (by intro w; go_simp <;> with_reducible rfl) hHeld ?_; simp only [pqZ];refine tkJ 37 62 rfl (by intro w; go_simp <;> with_reducible rfl) hHeld ?_; simp only [pqZ];refine wpAnyH_done (by kernel_rfl) ?_ _;go_wp2_with fail;go_ret;exact ⟨rfl, hB1.trans (hHeld.mono hltb)⟩
 have HC0 := HH77
 have HC1 : Hid (∀ V, Calls Tryz.prog 62 #[.int .i64 z2, .int .i64 8, .bool m77] V fun e w' => e = .returned (.bool true) ∧ w' = V) := hJz fun V => by
  have h := HWT.out z2 8 m77 V
  rwa [t2] at h
 have HC2 := HH73
 have HC3 : Hid (∀ V, Calls Tryz.prog 62 #[.int .i64 z7, .int .i64 8, .bool m73] V fun e w' => e = .returned (.bool true) ∧ w' = V) := hJz fun V => by
  have h := HWT.out z7 8 m73 V
  rwa [t7] at h
 have HC4 := HH65
 have HC5 : Hid (∀ V, Calls Tryz.prog 62 #[.int .i64 z8, .int .i64 4, .bool m65] V fun e w' => e = .returned (.bool true) ∧ w' = V) := hJz fun V => by
  have h := HWT.out z8 4 m65 V
  rwa [t8] at h
 have HC6 := HH84
 have HC7 : Hid (∀ V, Calls Tryz.prog 62 #[.int .i64 z9, .int .i64 255, .bool m84] V fun e w' => e = .returned (.bool true) ∧ w' = V) := hJz fun V => by
  have h := HWT.out z9 255 m84 V
  rwa [t9] at h
 have HC8 := HH68
 have HC9 : Hid (∀ V, Calls Tryz.prog 62 #[.int .i64 z10, .int .i64 1048576, .bool m68] V fun e w' => e = .returned (.bool true) ∧ w' = V) := hJz fun V => by
  have h := HWT.out z10 1048576 m68 V
  rwa [t10] at h
 go_upto_region 4 with fail;clear c0 c1 c2 c3 c4 c5 c6 c7 c8 c9 c10 c11 c12 cv hlt;refine wp_region_held_drew (S := (fun V => Below v1.heap.size v1 V)) (by kernel_rfl) (by exact (Below.refl _ _).drew) (fun hHeld => ?_);refine tkJ 0 25 rfl (by intro w; go_simp <;> with_reducible rfl) hHeld ?_; simp only [pqZ];refine tkI 1 26 rfl (by intro w hSw; obtain ⟨c0, c1, c2, c3, c4, c5, c6, c7, c8, c9, c10, c11, c12, cv, hlt⟩ := HFACT.out _ hSw; go_simp <;> with_reducible rfl) hHeld ?_; simp only [pqZ];refine tkJ 2 27 rfl (by intro w; go_simp <;> with_reducible rfl) hHeld ?_; simp only [pqZ];refine rdZ 3 28 rfl (by kernel_rfl) (fun K hK => ?_)
 go_simp
 refine (HC0.out _).mono ?_;rintro e vz ⟨rfl, rfl⟩;have hKeep := hHeld;go_wp2_with fail;refine hK.out _ _ (by (try dsimp only); exact hKeep) (fun hHeld => ?_); clear hK K hKeep; try simp only [pqZ]
 refine rdZ 4 29 rfl (by kernel_rfl) (fun K hK => ?_)
 go_simp
 refine (HC1.out _).mono ?_;rintro e vz ⟨rfl, rfl⟩;have hKeep := hHeld;go_wp2_with fail;refine hK.out _ _ (by (try dsimp only); exact hKeep) (fun hHeld => ?_); clear hK K hKeep; try simp only [pqZ]
 refine tkJ 5 30 rfl (by intro w; go_simp <;> with_reducible rfl) hHeld ?_; simp only [pqZ];refine tkJ 6 31 rfl (by intro w; go_simp <;> with_reducible rfl) hHeld ?_; simp only [pqZ];refine tkJ 7 32 rfl (by intro w; go_simp <;> with_reducible rfl) hHeld ?_; simp only [pqZ];refine tkI 8 33 rfl (by intro w hSw; obtain ⟨c0, c1, c2, c3, c4, c5, c6, c7, c8, c9, c10, c11, c12, cv, hlt⟩ := HFACT.out _ hSw; go_simp <;> with_reducible rfl) hHeld ?_; simp only [pqZ];refine tkJ 9 34 rfl (by intro w; go_simp <;> with_reducible rfl) hHeld ?_; simp only [pqZ];refine rdZ 10 35 rfl (by kernel_rfl) (fun K hK => ?_)
 go_simp
 refine (HC2.out _).mono ?_;rintro e vz ⟨rfl, rfl⟩;have hKeep := hHeld;go_wp2_with fail;refine hK.out _ _ (by (try dsimp only); exact hKeep) (fun hHeld => ?_); clear hK K hKeep; try simp only [pqZ]
 refine rdZ 11 36 rfl (by kernel_rfl) (fun K hK => ?_)
 go_simp
 refine (HC3.out _).mono ?_;rintro e vz ⟨rfl, rfl⟩;have hKeep := hHeld;go_wp2_with fail;refine hK.out _ _ (by (try dsimp only); exact hKeep) (fun hHeld => ?_); clear hK K hKeep; try simp only [pqZ]
 refine tkJ 12 37 rfl (by intro w; go_simp <;> with_reducible rfl) hHeld ?_; simp only [pqZ];refine tkJ 13 38 rfl (by intro w; go_simp <;> with_reducible rfl) hHeld ?_; simp only [pqZ];refine tkJ 14 39 rfl (by intro w; go_simp <;> with_reducible rfl) hHeld ?_; simp only [pqZ];refine tkJ 15 40 rfl (by intro w; go_simp <;> with_reducible rfl) hHeld ?_; simp only [pqZ];refine tkI 16 41 rfl (by intro w hSw; obtain ⟨c0, c1, c2, c3, c4, c5, c6, c7, c8, c9, c10, c11, c12, cv, hlt⟩ := HFACT.out _ hSw; go_simp <;> with_reducible rfl) hHeld ?_; simp only [pqZ];refine tkJ 17 42 rfl (by intro w; go_simp <;> with_reducible rfl) hHeld ?_; simp only [pqZ];refine rdZ 18 43 rfl (by kernel_rfl) (fun K hK => ?_)
 go_simp
 refine (HC4.out _).mono ?_;rintro e vz ⟨rfl, rfl⟩;have hKeep := hHeld;go_wp2_with fail;refine hK.out _ _ (by (try dsimp only); exact hKeep) (fun hHeld => ?_); clear hK K hKeep; try simp only [pqZ]
 refine rdZ 19 44 rfl (by kernel_rfl) (fun K hK => ?_)
 go_simp
 refine (HC5.out _).mono ?_;rintro e vz ⟨rfl, rfl⟩;have hKeep := hHeld;go_wp2_with fail;refine hK.out _ _ (by (try dsimp only); exact hKeep) (fun hHeld => ?_); clear hK K hKeep; try simp only [pqZ]
 refine tkJ 20 45 rfl (by intro w; go_simp <;> with_reducible rfl) hHeld ?_; simp only [pqZ];refine tkJ 21 46 rfl (by intro w; go_simp <;> with_reducible rfl) hHeld ?_; simp only [pqZ];refine tkJ 22 47 rfl (by intro w; go_simp <;> with_reducible rfl) hHeld ?_; simp only [pqZ];refine tkJ 23 48 rfl (by intro w; go_simp <;> with_reducible rfl) hHeld ?_; simp only [pqZ];refine tkI 24 49 rfl (by intro w hSw; obtain ⟨c0, c1, c2, c3, c4, c5, c6, c7, c8, c9, c10, c11, c12, cv, hlt⟩ := HFACT.out _ hSw; go_simp <;> with_reducible rfl) hHeld ?_; simp only [pqZ];refine tkJ 25 50 rfl (by intro w; go_simp <;> with_reducible rfl) hHeld ?_; simp only [pqZ];refine rdZ 26 51 rfl (by kernel_rfl) (fun K hK => ?_)
 go_simp
 refine (HC6.out _).mono ?_;rintro e vz ⟨rfl, rfl⟩;have hKeep := hHeld;go_wp2_with fail;refine hK.out _ _ (by (try dsimp only); exact hKeep) (fun hHeld => ?_); clear hK K hKeep; try simp only [pqZ]
 refine rdZ 27 52 rfl (by kernel_rfl) (fun K hK => ?_)
 go_simp
 refine (HC7.out _).mono ?_;rintro e vz ⟨rfl, rfl⟩;have hKeep := hHeld;go_wp2_with fail;refine hK.out _ _ (by (try dsimp only); exact hKeep) (fun hHeld => ?_); clear hK K hKeep; try simp only [pqZ]
 refine tkJ 28 53 rfl (by intro w; go_simp <;> with_reducible rfl) hHeld ?_; simp only [pqZ];refine tkJ 29 54 rfl (by intro w; go_simp <;> with_reducible rfl) hHeld ?_; simp only [pqZ];refine tkJ 30 55 rfl (by intro w; go_simp <;> with_reducible rfl) hHeld ?_; simp only [pqZ];refine tkJ 31 56 rfl (by intro w; go_simp <;> with_reducible rfl) hHeld ?_; simp only [pqZ];refine tkI 32 57 rfl (by intro w hSw; obtain ⟨c0, c1, c2, c3, c4, c5, c6, c7, c8, c9, c10, c11, c12, cv, hlt⟩ := HFACT.out _ hSw; go_simp <;> with_reducible rfl) hHeld ?_; simp only [pqZ];refine tkJ 33 58 rfl (by intro w; go_simp <;> with_reducible rfl) hHeld ?_; simp only [pqZ];refine rdZ 34 59 rfl (by kernel_rfl) (fun K hK => ?_)
 go_simp
 refine (HC8.out _).mono ?_;rintro e vz ⟨rfl, rfl⟩;have hKeep := hHeld;go_wp2_with fail;refine hK.out _ _ (by (try dsimp only); exact hKeep) (fun hHeld => ?_); clear hK K hKeep; try simp only [pqZ]
 refine rdZ 35 60 rfl (by kernel_rfl) (fun K hK => ?_)
 go_simp
 refine (HC9.out _).mono ?_;rintro e vz ⟨rfl, rfl⟩;have hKeep := hHeld;go_wp2_with fail;refine hK.out _ _ (by (try dsimp only); exact hKeep) (fun hHeld => ?_); clear hK K hKeep; try simp only [pqZ]
 refine tkJ 36 61 rfl (by intro w; go_simp <;> with_reducible rfl) hHeld ?_; simp only [pqZ];refine tkJ 37 62 rfl (by intro w; go_simp <;> with_reducible rfl) hHeld ?_; simp only [pqZ];refine wpAnyH_done (by kernel_rfl) ?_ _;have hB4 := hB1.trans (hHeld.mono hltb);obtain ⟨c0, c1, c2, c3, c4, c5, c6, c7, c8, c9, c10, c11, c12, cv, hlt⟩ := HFACT.out _ hHeld;clear HFACT hltb hHeld hB1 HC0 HC1 HC2 HC3 HC4 HC5 HC6 HC7 HC8 HC9
 have HFACT : Hid (∀ V, Below v1.drew.heap.size v1.drew V → V.cell? ⟨b, 0, none⟩ = some (.int .i64 z0) ∧ V.cell? ⟨b, 1, none⟩ = some (.int .i64 z1) ∧ V.cell? ⟨b, 2, none⟩ = some (.int .i64 z2) ∧ V.cell? ⟨b, 3, none⟩ = some (.int .i64 z3) ∧ V.cell? ⟨b, 4, none⟩ = some (.int .i64 z4) ∧ V.cell? ⟨b, 5, none⟩ = some (.int .i64 z5) ∧ V.cell? ⟨b, 6, none⟩ = some (.int .i64 z6) ∧ V.cell? ⟨b, 7, none⟩ = some (.int .i64 z7) ∧ V.cell? ⟨b, 8, none⟩ = some (.int .i64 z8) ∧ V.cell? ⟨b, 9, none⟩ = some (.int .i64 z9) ∧ V.cell? ⟨b, 10, none⟩ = some (.int .i64 z10) ∧ V.cell? ⟨b, 11, none⟩ = some (.int .i64 z11) ∧ V.cell? ⟨b, 12, none⟩ = some (.int .i64 z12) ∧ V.cell? ⟨b, 13, none⟩ = some (.slice A n cap) ∧ b < V.heap.size) := hJz fun V hV => by
  have h := fun o => hV.cell (p := ⟨b, o, none⟩) hlt;exact ⟨(h 0).trans c0, (h 1).trans c1, (h 2).trans c2, (h 3).trans c3, (h 4).trans c4, (h 5).trans c5, (h 6).trans c6, (h 7).trans c7, (h 8).trans c8, (h 9).trans c9, (h 10).trans c10, (h 11).trans c11, (h 12).trans c12, (h 13).trans cv, Nat.lt_of_lt_of_le hlt hV.size⟩
 have hltb := Nat.le_of_lt hlt;by_cases t3 : wthI z3 16 m85 = true
 case neg =>
  have t3 : wthI z3 16 m85 = false := by simpa using t3
  have hR : RES = false := by
   rw [HIS.out, t3];simp only [Bool.false_and, Bool.and_false]
  subst hR;have HC0 := HH85
  have HC1 : Hid (∀ V, Calls Tryz.prog 62 #[.int .i64 z3, .int .i64 16, .bool m85] V fun e w' => e = .returned (.bool false) ∧ w' = V) := hJz fun V => by
   have h := HWT.out z3 16 m85 V
   rwa [t3] at h
  have HC2 := HC0;have HC3 := HC0;have HC4 := HC0;have HC5 := HC0;have HC6 := HC0;have HC7 := HC0;have HC8 := HC0;have HC9 := HC0;go_upto_region 6 with fail;clear c0 c1 c2 c3 c4 c5 c6 c7 c8 c9 c10 c11 c12 cv hlt;refine wp_region_held_drew (S := (fun V => Below v1.drew.heap.size v1.drew V)) (by kernel_rfl) (by exact (Below.refl _ _).drew) (fun hHeld => ?_);refine tkJ 0 63 rfl (by intro w; go_simp <;> with_reducible rfl) hHeld ?_; simp only [pqZ];refine tkJ 1 64 rfl (by intro w; go_simp <;> with_reducible rfl) hHeld ?_; simp only [pqZ];refine tkI 2 65 rfl (by intro w hSw; obtain ⟨c0, c1, c2, c3, c4, c5, c6, c7, c8, c9, c10, c11, c12, cv, hlt⟩ := HFACT.out _ hSw; go_simp <;> with_reducible rfl) hHeld ?_; simp only [pqZ];refine tkJ 3 66 rfl (by intro w; go_simp <;> with_reducible rfl) hHeld ?_; simp only [pqZ];refine rdZ 4 67 rfl (by kernel_rfl) (fun K hK => ?_)
  go_simp
  refine (HC0.out _).mono ?_;rintro e vz ⟨rfl, rfl⟩;have hKeep := hHeld;go_wp2_with fail;refine hK.out _ _ (by (try dsimp only); exact hKeep) (fun hHeld => ?_); clear hK K hKeep; try simp only [pqZ]
  refine rdZ 5 68 rfl (by kernel_rfl) (fun K hK => ?_)
  go_simp
  refine (HC1.out _).mono ?_;rintro e vz ⟨rfl, rfl⟩;have hKeep := hHeld;go_wp2_with fail;refine hK.out _ _ (by (try dsimp only); exact hKeep) (fun hHeld => ?_); clear hK K hKeep; try simp only [pqZ]
  refine tkJ 6 69 rfl (by intro w; go_simp <;> with_reducible rfl) hHeld ?_; simp only [pqZ];refine tkJ 7 70 rfl (by intro w; go_simp <;> with_reducible rfl) hHeld ?_; simp only [pqZ];refine tkO 8 71 rfl (by kernel_rfl) (by rfl) hHeld ?_; simp only [pqZ];refine tkO 9 72 rfl (by kernel_rfl) (by rfl) hHeld ?_; simp only [pqZ];refine tkO 10 73 rfl (by kernel_rfl) (by rfl) hHeld ?_; simp only [pqZ];refine tkO 11 74 rfl (by kernel_rfl) (by rfl) hHeld ?_; simp only [pqZ];refine tkO 12 75 rfl (by kernel_rfl) (by rfl) hHeld ?_; simp only [pqZ];refine tkO 13 76 rfl (by kernel_rfl) (by rfl) hHeld ?_; simp only [pqZ];refine tkO 14 77 rfl (by kernel_rfl) (by rfl) hHeld ?_; simp only [pqZ];refine tkJ 15 78 rfl (by intro w; go_simp <;> with_reducible rfl) hHeld ?_; simp only [pqZ];refine tkJ 16 79 rfl (by intro w; go_simp <;> with_reducible rfl) hHeld ?_; simp only [pqZ];refine tkO 17 80 rfl (by kernel_rfl) (by rfl) hHeld ?_; simp only [pqZ];refine tkO 18 81 rfl (by kernel_rfl) (by rfl) hHeld ?_; simp only [pqZ];refine tkO 19 82 rfl (by kernel_rfl) (by rfl) hHeld ?_; simp only [pqZ];refine tkO 20 83 rfl (by kernel_rfl) (by rfl) hHeld ?_; simp only [pqZ];refine tkO 21 84 rfl (by kernel_rfl) (by rfl) hHeld ?_; simp only [pqZ];refine tkO 22 85 rfl (by kernel_rfl) (by rfl) hHeld ?_; simp only [pqZ];refine tkO 23 86 rfl (by kernel_rfl) (by rfl) hHeld ?_; simp only [pqZ];refine tkJ 24 87 rfl (by intro w; go_simp <;> with_reducible rfl) hHeld ?_; simp only [pqZ];refine tkJ 25 88 rfl (by intro w; go_simp <;> with_reducible rfl) hHeld ?_; simp only [pqZ];refine tkO 26 89 rfl (by kernel_rfl) (by rfl) hHeld ?_; simp only [pqZ];refine tkO 27 90 rfl (by kernel_rfl) (by rfl) hHeld ?_; simp only [pqZ];refine tkO 28 91 rfl (by kernel_rfl) (by rfl) hHeld ?_; simp only [pqZ];refine tkO 29 92 rfl (by kernel_rfl) (by rfl) hHeld ?_; simp only [pqZ];refine tkO 30 93 rfl (by kernel_rfl) (by rfl) hHeld ?_; simp only [pqZ];refine tkO 31 94 rfl (by kernel_rfl) (by rfl) hHeld ?_; simp only [pqZ];refine tkO 32 95 rfl (by kernel_rfl) (by rfl) hHeld ?_; simp only [pqZ];refine tkJ 33 96 rfl (by intro w; go_simp <;> with_reducible rfl) hHeld ?_; simp only [pqZ];refine wpAnyH_done (by kernel_rfl) ?_ _;go_wp2_with fail;go_ret;exact ⟨rfl, hB4.trans (hHeld.mono hltb)⟩
 by_cases t4 : wthI z4 16 m85 = true
 case neg =>
  have t4 : wthI z4 16 m85 = false := by simpa using t4
  have hR : RES = false := by
   rw [HIS.out, t4];simp only [Bool.false_and, Bool.and_false]
  subst hR;have HC0 := HH85
  have HC1 : Hid (∀ V, Calls Tryz.prog 62 #[.int .i64 z3, .int .i64 16, .bool m85] V fun e w' => e = .returned (.bool true) ∧ w' = V) := hJz fun V => by
   have h := HWT.out z3 16 m85 V
   rwa [t3] at h
  have HC2 := HH85
  have HC3 : Hid (∀ V, Calls Tryz.prog 62 #[.int .i64 z4, .int .i64 16, .bool m85] V fun e w' => e = .returned (.bool false) ∧ w' = V) := hJz fun V => by
   have h := HWT.out z4 16 m85 V
   rwa [t4] at h
  have HC4 := HC0;have HC5 := HC0;have HC6 := HC0;have HC7 := HC0;have HC8 := HC0;have HC9 := HC0;go_upto_region 6 with fail;clear c0 c1 c2 c3 c4 c5 c6 c7 c8 c9 c10 c11 c12 cv hlt;refine wp_region_held_drew (S := (fun V => Below v1.drew.heap.size v1.drew V)) (by kernel_rfl) (by exact (Below.refl _ _).drew) (fun hHeld => ?_);refine tkJ 0 63 rfl (by intro w; go_simp <;> with_reducible rfl) hHeld ?_; simp only [pqZ];refine tkJ 1 64 rfl (by intro w; go_simp <;> with_reducible rfl) hHeld ?_; simp only [pqZ];refine tkI 2 65 rfl (by intro w hSw; obtain ⟨c0, c1, c2, c3, c4, c5, c6, c7, c8, c9, c10, c11, c12, cv, hlt⟩ := HFACT.out _ hSw; go_simp <;> with_reducible rfl) hHeld ?_; simp only [pqZ];refine tkJ 3 66 rfl (by intro w; go_simp <;> with_reducible rfl) hHeld ?_; simp only [pqZ];refine rdZ 4 67 rfl (by kernel_rfl) (fun K hK => ?_)
  go_simp
  refine (HC0.out _).mono ?_;rintro e vz ⟨rfl, rfl⟩;have hKeep := hHeld;go_wp2_with fail;refine hK.out _ _ (by (try dsimp only); exact hKeep) (fun hHeld => ?_); clear hK K hKeep; try simp only [pqZ]
  refine rdZ 5 68 rfl (by kernel_rfl) (fun K hK => ?_)
  go_simp
  refine (HC1.out _).mono ?_;rintro e vz ⟨rfl, rfl⟩;have hKeep := hHeld;go_wp2_with fail;refine hK.out _ _ (by (try dsimp only); exact hKeep) (fun hHeld => ?_); clear hK K hKeep; try simp only [pqZ]
  refine tkJ 6 69 rfl (by intro w; go_simp <;> with_reducible rfl) hHeld ?_; simp only [pqZ];refine tkJ 7 70 rfl (by intro w; go_simp <;> with_reducible rfl) hHeld ?_; simp only [pqZ];refine tkJ 8 71 rfl (by intro w; go_simp <;> with_reducible rfl) hHeld ?_; simp only [pqZ];refine tkJ 9 72 rfl (by intro w; go_simp <;> with_reducible rfl) hHeld ?_; simp only [pqZ];refine tkI 10 73 rfl (by intro w hSw; obtain ⟨c0, c1, c2, c3, c4, c5, c6, c7, c8, c9, c10, c11, c12, cv, hlt⟩ := HFACT.out _ hSw; go_simp <;> with_reducible rfl) hHeld ?_; simp only [pqZ];refine tkJ 11 74 rfl (by intro w; go_simp <;> with_reducible rfl) hHeld ?_; simp only [pqZ];refine rdZ 12 75 rfl (by kernel_rfl) (fun K hK => ?_)
  go_simp
  refine (HC2.out _).mono ?_;rintro e vz ⟨rfl, rfl⟩;have hKeep := hHeld;go_wp2_with fail;refine hK.out _ _ (by (try dsimp only); exact hKeep) (fun hHeld => ?_); clear hK K hKeep; try simp only [pqZ]
  refine rdZ 13 76 rfl (by kernel_rfl) (fun K hK => ?_)
  go_simp
  refine (HC3.out _).mono ?_;rintro e vz ⟨rfl, rfl⟩;have hKeep := hHeld;go_wp2_with fail;refine hK.out _ _ (by (try dsimp only); exact hKeep) (fun hHeld => ?_); clear hK K hKeep; try simp only [pqZ]
  refine tkJ 14 77 rfl (by intro w; go_simp <;> with_reducible rfl) hHeld ?_; simp only [pqZ];refine tkJ 15 78 rfl (by intro w; go_simp <;> with_reducible rfl) hHeld ?_; simp only [pqZ];refine tkJ 16 79 rfl (by intro w; go_simp <;> with_reducible rfl) hHeld ?_; simp only [pqZ];refine tkO 17 80 rfl (by kernel_rfl) (by rfl) hHeld ?_; simp only [pqZ];refine tkO 18 81 rfl (by kernel_rfl) (by rfl) hHeld ?_; simp only [pqZ];refine tkO 19 82 rfl (by kernel_rfl) (by rfl) hHeld ?_; simp only [pqZ];refine tkO 20 83 rfl (by kernel_rfl) (by rfl) hHeld ?_; simp only [pqZ];refine tkO 21 84 rfl (by kernel_rfl) (by rfl) hHeld ?_; simp only [pqZ];refine tkO 22 85 rfl (by kernel_rfl) (by rfl) hHeld ?_; simp only [pqZ];refine tkO 23 86 rfl (by kernel_rfl) (by rfl) hHeld ?_; simp only [pqZ];refine tkJ 24 87 rfl (by intro w; go_simp <;> with_reducible rfl) hHeld ?_; simp only [pqZ];refine tkJ 25 88 rfl (by intro w; go_simp <;> with_reducible rfl) hHeld ?_; simp only [pqZ];refine tkO 26 89 rfl (by kernel_rfl) (by rfl) hHeld ?_; simp only [pqZ];refine tkO 27 90 rfl (by kernel_rfl) (by rfl) hHeld ?_; simp only [pqZ];refine tkO 28 91 rfl (by kernel_rfl) (by rfl) hHeld ?_; simp only [pqZ];refine tkO 29 92 rfl (by kernel_rfl) (by rfl) hHeld ?_; simp only [pqZ];refine tkO 30 93 rfl (by kernel_rfl) (by rfl) hHeld ?_; simp only [pqZ];refine tkO 31 94 rfl (by kernel_rfl) (by rfl) hHeld ?_; simp only [pqZ];refine tkO 32 95 rfl (by kernel_rfl) (by rfl) hHeld ?_; simp only [pqZ];refine tkJ 33 96 rfl (by intro w; go_simp <;> with_reducible rfl) hHeld ?_; simp only [pqZ];refine wpAnyH_done (by kernel_rfl) ?_ _;go_wp2_with fail;go_ret;exact ⟨rfl, hB4.trans (hHeld.mono hltb)⟩
 by_cases t5 : wthI z5 16 m79 = true
 case neg =>
  have t5 : wthI z5 16 m79 = false := by simpa using t5
  have hR : RES = false := by
   rw [HIS.out, t5];simp only [Bool.false_and, Bool.and_false]
  subst hR;have HC0 := HH85
  have HC1 : Hid (∀ V, Calls Tryz.prog 62 #[.int .i64 z3, .int .i64 16, .bool m85] V fun e w' => e = .returned (.bool true) ∧ w' = V) := hJz fun V => by
   have h := HWT.out z3 16 m85 V
   rwa [t3] at h
  have HC2 := HH85
  have HC3 : Hid (∀ V, Calls Tryz.prog 62 #[.int .i64 z4, .int .i64 16, .bool m85] V fun e w' => e = .returned (.bool true) ∧ w' = V) := hJz fun V => by
   have h := HWT.out z4 16 m85 V
   rwa [t4] at h
  have HC4 := HH79
  have HC5 : Hid (∀ V, Calls Tryz.prog 62 #[.int .i64 z5, .int .i64 16, .bool m79] V fun e w' => e = .returned (.bool false) ∧ w' = V) := hJz fun V => by
   have h := HWT.out z5 16 m79 V
   rwa [t5] at h
  have HC6 := HC0;have HC7 := HC0;have HC8 := HC0;have HC9 := HC0;go_upto_region 6 with fail;clear c0 c1 c2 c3 c4 c5 c6 c7 c8 c9 c10 c11 c12 cv hlt;refine wp_region_held_drew (S := (fun V => Below v1.drew.heap.size v1.drew V)) (by kernel_rfl) (by exact (Below.refl _ _).drew) (fun hHeld => ?_);refine tkJ 0 63 rfl (by intro w; go_simp <;> with_reducible rfl) hHeld ?_; simp only [pqZ];refine tkJ 1 64 rfl (by intro w; go_simp <;> with_reducible rfl) hHeld ?_; simp only [pqZ];refine tkI 2 65 rfl (by intro w hSw; obtain ⟨c0, c1, c2, c3, c4, c5, c6, c7, c8, c9, c10, c11, c12, cv, hlt⟩ := HFACT.out _ hSw; go_simp <;> with_reducible rfl) hHeld ?_; simp only [pqZ];refine tkJ 3 66 rfl (by intro w; go_simp <;> with_reducible rfl) hHeld ?_; simp only [pqZ];refine rdZ 4 67 rfl (by kernel_rfl) (fun K hK => ?_)
  go_simp
  refine (HC0.out _).mono ?_;rintro e vz ⟨rfl, rfl⟩;have hKeep := hHeld;go_wp2_with fail;refine hK.out _ _ (by (try dsimp only); exact hKeep) (fun hHeld => ?_); clear hK K hKeep; try simp only [pqZ]
  refine rdZ 5 68 rfl (by kernel_rfl) (fun K hK => ?_)
  go_simp
  refine (HC1.out _).mono ?_;rintro e vz ⟨rfl, rfl⟩;have hKeep := hHeld;go_wp2_with fail;refine hK.out _ _ (by (try dsimp only); exact hKeep) (fun hHeld => ?_); clear hK K hKeep; try simp only [pqZ]
  refine tkJ 6 69 rfl (by intro w; go_simp <;> with_reducible rfl) hHeld ?_; simp only [pqZ];refine tkJ 7 70 rfl (by intro w; go_simp <;> with_reducible rfl) hHeld ?_; simp only [pqZ];refine tkJ 8 71 rfl (by intro w; go_simp <;> with_reducible rfl) hHeld ?_; simp only [pqZ];refine tkJ 9 72 rfl (by intro w; go_simp <;> with_reducible rfl) hHeld ?_; simp only [pqZ];refine tkI 10 73 rfl (by intro w hSw; obtain ⟨c0, c1, c2, c3, c4, c5, c6, c7, c8, c9, c10, c11, c12, cv, hlt⟩ := HFACT.out _ hSw; go_simp <;> with_reducible rfl) hHeld ?_; simp only [pqZ];refine tkJ 11 74 rfl (by intro w; go_simp <;> with_reducible rfl) hHeld ?_; simp only [pqZ];refine rdZ 12 75 rfl (by kernel_rfl) (fun K hK => ?_)
  go_simp
  refine (HC2.out _).mono ?_;rintro e vz ⟨rfl, rfl⟩;have hKeep := hHeld;go_wp2_with fail;refine hK.out _ _ (by (try dsimp only); exact hKeep) (fun hHeld => ?_); clear hK K hKeep; try simp only [pqZ]
  refine rdZ 13 76 rfl (by kernel_rfl) (fun K hK => ?_)
  go_simp
  refine (HC3.out _).mono ?_;rintro e vz ⟨rfl, rfl⟩;have hKeep := hHeld;go_wp2_with fail;refine hK.out _ _ (by (try dsimp only); exact hKeep) (fun hHeld => ?_); clear hK K hKeep; try simp only [pqZ]
  refine tkJ 14 77 rfl (by intro w; go_simp <;> with_reducible rfl) hHeld ?_; simp only [pqZ];refine tkJ 15 78 rfl (by intro w; go_simp <;> with_reducible rfl) hHeld ?_; simp only [pqZ];refine tkJ 16 79 rfl (by intro w; go_simp <;> with_reducible rfl) hHeld ?_; simp only [pqZ];refine tkJ 17 80 rfl (by intro w; go_simp <;> with_reducible rfl) hHeld ?_; simp only [pqZ];refine tkJ 18 81 rfl (by intro w; go_simp <;> with_reducible rfl) hHeld ?_; simp only [pqZ];refine tkI 19 82 rfl (by intro w hSw; obtain ⟨c0, c1, c2, c3, c4, c5, c6, c7, c8, c9, c10, c11, c12, cv, hlt⟩ := HFACT.out _ hSw; go_simp <;> with_reducible rfl) hHeld ?_; simp only [pqZ];refine tkJ 20 83 rfl (by intro w; go_simp <;> with_reducible rfl) hHeld ?_; simp only [pqZ];refine rdZ 21 84 rfl (by kernel_rfl) (fun K hK => ?_)
  go_simp
  refine (HC4.out _).mono ?_;rintro e vz ⟨rfl, rfl⟩;have hKeep := hHeld;go_wp2_with fail;refine hK.out _ _ (by (try dsimp only); exact hKeep) (fun hHeld => ?_); clear hK K hKeep; try simp only [pqZ]
  refine rdZ 22 85 rfl (by kernel_rfl) (fun K hK => ?_)
  go_simp
  refine (HC5.out _).mono ?_;rintro e vz ⟨rfl, rfl⟩;have hKeep := hHeld;go_wp2_with fail;refine hK.out _ _ (by (try dsimp only); exact hKeep) (fun hHeld => ?_); clear hK K hKeep; try simp only [pqZ]
  refine tkJ 23 86 rfl (by intro w; go_simp <;> with_reducible rfl) hHeld ?_; simp only [pqZ];refine tkJ 24 87 rfl (by intro w; go_simp <;> with_reducible rfl) hHeld ?_; simp only [pqZ];refine tkJ 25 88 rfl (by intro w; go_simp <;> with_reducible rfl) hHeld ?_; simp only [pqZ];refine tkO 26 89 rfl (by kernel_rfl) (by rfl) hHeld ?_; simp only [pqZ];refine tkO 27 90 rfl (by kernel_rfl) (by rfl) hHeld ?_; simp only [pqZ];refine tkO 28 91 rfl (by kernel_rfl) (by rfl) hHeld ?_; simp only [pqZ];refine tkO 29 92 rfl (by kernel_rfl) (by rfl) hHeld ?_; simp only [pqZ];refine tkO 30 93 rfl (by kernel_rfl) (by rfl) hHeld ?_; simp only [pqZ];refine tkO 31 94 rfl (by kernel_rfl) (by rfl) hHeld ?_; simp only [pqZ];refine tkO 32 95 rfl (by kernel_rfl) (by rfl) hHeld ?_; simp only [pqZ];refine tkJ 33 96 rfl (by intro w; go_simp <;> with_reducible rfl) hHeld ?_; simp only [pqZ];refine wpAnyH_done (by kernel_rfl) ?_ _;go_wp2_with fail;go_ret;exact ⟨rfl, hB4.trans (hHeld.mono hltb)⟩
 by_cases t6 : wthI z6 16 m79 = true
 case neg =>
  have t6 : wthI z6 16 m79 = false := by simpa using t6
  have hR : RES = false := by
   rw [HIS.out, t6];simp only [Bool.false_and, Bool.and_false]
  subst hR;have HC0 := HH85
  have HC1 : Hid (∀ V, Calls Tryz.prog 62 #[.int .i64 z3, .int .i64 16, .bool m85] V fun e w' => e = .returned (.bool true) ∧ w' = V) := hJz fun V => by
   have h := HWT.out z3 16 m85 V
   rwa [t3] at h
  have HC2 := HH85
  have HC3 : Hid (∀ V, Calls Tryz.prog 62 #[.int .i64 z4, .int .i64 16, .bool m85] V fun e w' => e = .returned (.bool true) ∧ w' = V) := hJz fun V => by
   have h := HWT.out z4 16 m85 V
   rwa [t4] at h
  have HC4 := HH79
  have HC5 : Hid (∀ V, Calls Tryz.prog 62 #[.int .i64 z5, .int .i64 16, .bool m79] V fun e w' => e = .returned (.bool true) ∧ w' = V) := hJz fun V => by
   have h := HWT.out z5 16 m79 V
   rwa [t5] at h
  have HC6 := HH79
  have HC7 : Hid (∀ V, Calls Tryz.prog 62 #[.int .i64 z6, .int .i64 16, .bool m79] V fun e w' => e = .returned (.bool false) ∧ w' = V) := hJz fun V => by
   have h := HWT.out z6 16 m79 V
   rwa [t6] at h
  have HC8 := HC0;have HC9 := HC0;go_upto_region 6 with fail;clear c0 c1 c2 c3 c4 c5 c6 c7 c8 c9 c10 c11 c12 cv hlt;refine wp_region_held_drew (S := (fun V => Below v1.drew.heap.size v1.drew V)) (by kernel_rfl) (by exact (Below.refl _ _).drew) (fun hHeld => ?_);refine tkJ 0 63 rfl (by intro w; go_simp <;> with_reducible rfl) hHeld ?_; simp only [pqZ];refine tkJ 1 64 rfl (by intro w; go_simp <;> with_reducible rfl) hHeld ?_; simp only [pqZ];refine tkI 2 65 rfl (by intro w hSw; obtain ⟨c0, c1, c2, c3, c4, c5, c6, c7, c8, c9, c10, c11, c12, cv, hlt⟩ := HFACT.out _ hSw; go_simp <;> with_reducible rfl) hHeld ?_; simp only [pqZ];refine tkJ 3 66 rfl (by intro w; go_simp <;> with_reducible rfl) hHeld ?_; simp only [pqZ];refine rdZ 4 67 rfl (by kernel_rfl) (fun K hK => ?_)
  go_simp
  refine (HC0.out _).mono ?_;rintro e vz ⟨rfl, rfl⟩;have hKeep := hHeld;go_wp2_with fail;refine hK.out _ _ (by (try dsimp only); exact hKeep) (fun hHeld => ?_); clear hK K hKeep; try simp only [pqZ]
  refine rdZ 5 68 rfl (by kernel_rfl) (fun K hK => ?_)
  go_simp
  refine (HC1.out _).mono ?_;rintro e vz ⟨rfl, rfl⟩;have hKeep := hHeld;go_wp2_with fail;refine hK.out _ _ (by (try dsimp only); exact hKeep) (fun hHeld => ?_); clear hK K hKeep; try simp only [pqZ]
  refine tkJ 6 69 rfl (by intro w; go_simp <;> with_reducible rfl) hHeld ?_; simp only [pqZ];refine tkJ 7 70 rfl (by intro w; go_simp <;> with_reducible rfl) hHeld ?_; simp only [pqZ];refine tkJ 8 71 rfl (by intro w; go_simp <;> with_reducible rfl) hHeld ?_; simp only [pqZ];refine tkJ 9 72 rfl (by intro w; go_simp <;> with_reducible rfl) hHeld ?_; simp only [pqZ];refine tkI 10 73 rfl (by intro w hSw; obtain ⟨c0, c1, c2, c3, c4, c5, c6, c7, c8, c9, c10, c11, c12, cv, hlt⟩ := HFACT.out _ hSw; go_simp <;> with_reducible rfl) hHeld ?_; simp only [pqZ];refine tkJ 11 74 rfl (by intro w; go_simp <;> with_reducible rfl) hHeld ?_; simp only [pqZ];refine rdZ 12 75 rfl (by kernel_rfl) (fun K hK => ?_)
  go_simp
  refine (HC2.out _).mono ?_;rintro e vz ⟨rfl, rfl⟩;have hKeep := hHeld;go_wp2_with fail;refine hK.out _ _ (by (try dsimp only); exact hKeep) (fun hHeld => ?_); clear hK K hKeep; try simp only [pqZ]
  refine rdZ 13 76 rfl (by kernel_rfl) (fun K hK => ?_)
  go_simp
  refine (HC3.out _).mono ?_;rintro e vz ⟨rfl, rfl⟩;have hKeep := hHeld;go_wp2_with fail;refine hK.out _ _ (by (try dsimp only); exact hKeep) (fun hHeld => ?_); clear hK K hKeep; try simp only [pqZ]
  refine tkJ 14 77 rfl (by intro w; go_simp <;> with_reducible rfl) hHeld ?_; simp only [pqZ];refine tkJ 15 78 rfl (by intro w; go_simp <;> with_reducible rfl) hHeld ?_; simp only [pqZ];refine tkJ 16 79 rfl (by intro w; go_simp <;> with_reducible rfl) hHeld ?_; simp only [pqZ];refine tkJ 17 80 rfl (by intro w; go_simp <;> with_reducible rfl) hHeld ?_; simp only [pqZ];refine tkJ 18 81 rfl (by intro w; go_simp <;> with_reducible rfl) hHeld ?_; simp only [pqZ];refine tkI 19 82 rfl (by intro w hSw; obtain ⟨c0, c1, c2, c3, c4, c5, c6, c7, c8, c9, c10, c11, c12, cv, hlt⟩ := HFACT.out _ hSw; go_simp <;> with_reducible rfl) hHeld ?_; simp only [pqZ];refine tkJ 20 83 rfl (by intro w; go_simp <;> with_reducible rfl) hHeld ?_; simp only [pqZ];refine rdZ 21 84 rfl (by kernel_rfl) (fun K hK => ?_)
  go_simp
  refine (HC4.out _).mono ?_;rintro e vz ⟨rfl, rfl⟩;have hKeep := hHeld;go_wp2_with fail;refine hK.out _ _ (by (try dsimp only); exact hKeep) (fun hHeld => ?_); clear hK K hKeep; try simp only [pqZ]
  refine rdZ 22 85 rfl (by kernel_rfl) (fun K hK => ?_)
  go_simp
  refine (HC5.out _).mono ?_;rintro e vz ⟨rfl, rfl⟩;have hKeep := hHeld;go_wp2_with fail;refine hK.out _ _ (by (try dsimp only); exact hKeep) (fun hHeld => ?_); clear hK K hKeep; try simp only [pqZ]
  refine tkJ 23 86 rfl (by intro w; go_simp <;> with_reducible rfl) hHeld ?_; simp only [pqZ];refine tkJ 24 87 rfl (by intro w; go_simp <;> with_reducible rfl) hHeld ?_; simp only [pqZ];refine tkJ 25 88 rfl (by intro w; go_simp <;> with_reducible rfl) hHeld ?_; simp only [pqZ];refine tkJ 26 89 rfl (by intro w; go_simp <;> with_reducible rfl) hHeld ?_; simp only [pqZ];refine tkJ 27 90 rfl (by intro w; go_simp <;> with_reducible rfl) hHeld ?_; simp only [pqZ];refine tkI 28 91 rfl (by intro w hSw; obtain ⟨c0, c1, c2, c3, c4, c5, c6, c7, c8, c9, c10, c11, c12, cv, hlt⟩ := HFACT.out _ hSw; go_simp <;> with_reducible rfl) hHeld ?_; simp only [pqZ];refine tkJ 29 92 rfl (by intro w; go_simp <;> with_reducible rfl) hHeld ?_; simp only [pqZ];refine rdZ 30 93 rfl (by kernel_rfl) (fun K hK => ?_)
  go_simp
  refine (HC6.out _).mono ?_;rintro e vz ⟨rfl, rfl⟩;have hKeep := hHeld;go_wp2_with fail;refine hK.out _ _ (by (try dsimp only); exact hKeep) (fun hHeld => ?_); clear hK K hKeep; try simp only [pqZ]
  refine rdZ 31 94 rfl (by kernel_rfl) (fun K hK => ?_)
  go_simp
  refine (HC7.out _).mono ?_;rintro e vz ⟨rfl, rfl⟩;have hKeep := hHeld;go_wp2_with fail;refine hK.out _ _ (by (try dsimp only); exact hKeep) (fun hHeld => ?_); clear hK K hKeep; try simp only [pqZ]
  refine tkJ 32 95 rfl (by intro w; go_simp <;> with_reducible rfl) hHeld ?_; simp only [pqZ];refine tkJ 33 96 rfl (by intro w; go_simp <;> with_reducible rfl) hHeld ?_; simp only [pqZ];refine wpAnyH_done (by kernel_rfl) ?_ _;go_wp2_with fail;go_ret;exact ⟨rfl, hB4.trans (hHeld.mono hltb)⟩
 have HC0 := HH85
 have HC1 : Hid (∀ V, Calls Tryz.prog 62 #[.int .i64 z3, .int .i64 16, .bool m85] V fun e w' => e = .returned (.bool true) ∧ w' = V) := hJz fun V => by
  have h := HWT.out z3 16 m85 V
  rwa [t3] at h
 have HC2 := HH85
 have HC3 : Hid (∀ V, Calls Tryz.prog 62 #[.int .i64 z4, .int .i64 16, .bool m85] V fun e w' => e = .returned (.bool true) ∧ w' = V) := hJz fun V => by
  have h := HWT.out z4 16 m85 V
  rwa [t4] at h
 have HC4 := HH79
 have HC5 : Hid (∀ V, Calls Tryz.prog 62 #[.int .i64 z5, .int .i64 16, .bool m79] V fun e w' => e = .returned (.bool true) ∧ w' = V) := hJz fun V => by
  have h := HWT.out z5 16 m79 V
  rwa [t5] at h
 have HC6 := HH79
 have HC7 : Hid (∀ V, Calls Tryz.prog 62 #[.int .i64 z6, .int .i64 16, .bool m79] V fun e w' => e = .returned (.bool true) ∧ w' = V) := hJz fun V => by
  have h := HWT.out z6 16 m79 V
  rwa [t6] at h
 have HC8 := HC0;have HC9 := HC0;go_upto_region 6 with fail;clear c0 c1 c2 c3 c4 c5 c6 c7 c8 c9 c10 c11 c12 cv hlt;refine wp_region_held_drew (S := (fun V => Below v1.drew.heap.size v1.drew V)) (by kernel_rfl) (by exact (Below.refl _ _).drew) (fun hHeld => ?_);refine tkJ 0 63 rfl (by intro w; go_simp <;> with_reducible rfl) hHeld ?_; simp only [pqZ];refine tkJ 1 64 rfl (by intro w; go_simp <;> with_reducible rfl) hHeld ?_; simp only [pqZ];refine tkI 2 65 rfl (by intro w hSw; obtain ⟨c0, c1, c2, c3, c4, c5, c6, c7, c8, c9, c10, c11, c12, cv, hlt⟩ := HFACT.out _ hSw; go_simp <;> with_reducible rfl) hHeld ?_; simp only [pqZ];refine tkJ 3 66 rfl (by intro w; go_simp <;> with_reducible rfl) hHeld ?_; simp only [pqZ];refine rdZ 4 67 rfl (by kernel_rfl) (fun K hK => ?_)
 go_simp
 refine (HC0.out _).mono ?_;rintro e vz ⟨rfl, rfl⟩;have hKeep := hHeld;go_wp2_with fail;refine hK.out _ _ (by (try dsimp only); exact hKeep) (fun hHeld => ?_); clear hK K hKeep; try simp only [pqZ]
 refine rdZ 5 68 rfl (by kernel_rfl) (fun K hK => ?_)
 go_simp
 refine (HC1.out _).mono ?_;rintro e vz ⟨rfl, rfl⟩;have hKeep := hHeld;go_wp2_with fail;refine hK.out _ _ (by (try dsimp only); exact hKeep) (fun hHeld => ?_); clear hK K hKeep; try simp only [pqZ]
 refine tkJ 6 69 rfl (by intro w; go_simp <;> with_reducible rfl) hHeld ?_; simp only [pqZ];refine tkJ 7 70 rfl (by intro w; go_simp <;> with_reducible rfl) hHeld ?_; simp only [pqZ];refine tkJ 8 71 rfl (by intro w; go_simp <;> with_reducible rfl) hHeld ?_; simp only [pqZ];refine tkJ 9 72 rfl (by intro w; go_simp <;> with_reducible rfl) hHeld ?_; simp only [pqZ];refine tkI 10 73 rfl (by intro w hSw; obtain ⟨c0, c1, c2, c3, c4, c5, c6, c7, c8, c9, c10, c11, c12, cv, hlt⟩ := HFACT.out _ hSw; go_simp <;> with_reducible rfl) hHeld ?_; simp only [pqZ];refine tkJ 11 74 rfl (by intro w; go_simp <;> with_reducible rfl) hHeld ?_; simp only [pqZ];refine rdZ 12 75 rfl (by kernel_rfl) (fun K hK => ?_)
 go_simp
 refine (HC2.out _).mono ?_;rintro e vz ⟨rfl, rfl⟩;have hKeep := hHeld;go_wp2_with fail;refine hK.out _ _ (by (try dsimp only); exact hKeep) (fun hHeld => ?_); clear hK K hKeep; try simp only [pqZ]
 refine rdZ 13 76 rfl (by kernel_rfl) (fun K hK => ?_)
 go_simp
 refine (HC3.out _).mono ?_;rintro e vz ⟨rfl, rfl⟩;have hKeep := hHeld;go_wp2_with fail;refine hK.out _ _ (by (try dsimp only); exact hKeep) (fun hHeld => ?_); clear hK K hKeep; try simp only [pqZ]
 refine tkJ 14 77 rfl (by intro w; go_simp <;> with_reducible rfl) hHeld ?_; simp only [pqZ];refine tkJ 15 78 rfl (by intro w; go_simp <;> with_reducible rfl) hHeld ?_; simp only [pqZ];refine tkJ 16 79 rfl (by intro w; go_simp <;> with_reducible rfl) hHeld ?_; simp only [pqZ];refine tkJ 17 80 rfl (by intro w; go_simp <;> with_reducible rfl) hHeld ?_; simp only [pqZ];refine tkJ 18 81 rfl (by intro w; go_simp <;> with_reducible rfl) hHeld ?_; simp only [pqZ];refine tkI 19 82 rfl (by intro w hSw; obtain ⟨c0, c1, c2, c3, c4, c5, c6, c7, c8, c9, c10, c11, c12, cv, hlt⟩ := HFACT.out _ hSw; go_simp <;> with_reducible rfl) hHeld ?_; simp only [pqZ];refine tkJ 20 83 rfl (by intro w; go_simp <;> with_reducible rfl) hHeld ?_; simp only [pqZ];refine rdZ 21 84 rfl (by kernel_rfl) (fun K hK => ?_)
 go_simp
 refine (HC4.out _).mono ?_;rintro e vz ⟨rfl, rfl⟩;have hKeep := hHeld;go_wp2_with fail;refine hK.out _ _ (by (try dsimp only); exact hKeep) (fun hHeld => ?_); clear hK K hKeep; try simp only [pqZ]
 refine rdZ 22 85 rfl (by kernel_rfl) (fun K hK => ?_)
 go_simp
 refine (HC5.out _).mono ?_;rintro e vz ⟨rfl, rfl⟩;have hKeep := hHeld;go_wp2_with fail;refine hK.out _ _ (by (try dsimp only); exact hKeep) (fun hHeld => ?_); clear hK K hKeep; try simp only [pqZ]
 refine tkJ 23 86 rfl (by intro w; go_simp <;> with_reducible rfl) hHeld ?_; simp only [pqZ];refine tkJ 24 87 rfl (by intro w; go_simp <;> with_reducible rfl) hHeld ?_; simp only [pqZ];refine tkJ 25 88 rfl (by intro w; go_simp <;> with_reducible rfl) hHeld ?_; simp only [pqZ];refine tkJ 26 89 rfl (by intro w; go_simp <;> with_reducible rfl) hHeld ?_; simp only [pqZ];refine tkJ 27 90 rfl (by intro w; go_simp <;> with_reducible rfl) hHeld ?_; simp only [pqZ];refine tkI 28 91 rfl (by intro w hSw; obtain ⟨c0, c1, c2, c3, c4, c5, c6, c7, c8, c9, c10, c11, c12, cv, hlt⟩ := HFACT.out _ hSw; go_simp <;> with_reducible rfl) hHeld ?_; simp only [pqZ];refine tkJ 29 92 rfl (by intro w; go_simp <;> with_reducible rfl) hHeld ?_; simp only [pqZ];refine rdZ 30 93 rfl (by kernel_rfl) (fun K hK => ?_)
 go_simp
 refine (HC6.out _).mono ?_;rintro e vz ⟨rfl, rfl⟩;have hKeep := hHeld;go_wp2_with fail;refine hK.out _ _ (by (try dsimp only); exact hKeep) (fun hHeld => ?_); clear hK K hKeep; try simp only [pqZ]
 refine rdZ 31 94 rfl (by kernel_rfl) (fun K hK => ?_)
 go_simp
 refine (HC7.out _).mono ?_;rintro e vz ⟨rfl, rfl⟩;have hKeep := hHeld;go_wp2_with fail;refine hK.out _ _ (by (try dsimp only); exact hKeep) (fun hHeld => ?_); clear hK K hKeep; try simp only [pqZ]
 refine tkJ 32 95 rfl (by intro w; go_simp <;> with_reducible rfl) hHeld ?_; simp only [pqZ];refine tkJ 33 96 rfl (by intro w; go_simp <;> with_reducible rfl) hHeld ?_; simp only [pqZ];refine wpAnyH_done (by kernel_rfl) ?_ _;have hB6 := hB4.trans (hHeld.mono hltb);obtain ⟨c0, c1, c2, c3, c4, c5, c6, c7, c8, c9, c10, c11, c12, cv, hlt⟩ := HFACT.out _ hHeld;clear HFACT hltb hHeld hB4 HC0 HC1 HC2 HC3 HC4 HC5 HC6 HC7 HC8 HC9
 have HIS2 : Hid (RES = (((decide (z11 = 0) || m81) && (decide (z12 = 0) || m80)) && (decide (n = 0) || (m78 && decide (n ≤ 32))))) := hJz (by
  rw [HIS.out, decide_eq_true (by omega), t2, t7, t8, t9, t10, t3, t4, t5, t6]
  simp only [Bool.true_and, Bool.and_true, Bool.and_self])
 clear t2 t7 t8 t9 t10 t3 t4 t5 t6 HIS p0 p1 p2 p3
 by_cases y11 : z11 = 0
 ·subst y11;have HP : Hid (RES = ((decide (z12 = 0) || m80) && (decide (n = 0) || (m78 && decide (n ≤ 32))))) := hJz (by rw [HIS2.out]; simp)
  by_cases y12 : z12 = 0
  ·subst y12;have HQ : Hid (RES = (decide (n = 0) || (m78 && decide (n ≤ 32)))) := hJz (by rw [HP.out]; simp);go_upto_region 10 with fail
   by_cases n0 : n = 0
   ·have hR : RES = true := by rw [HQ.out, n0]; rfl
    subst hR;subst n0;go_wp2_with fail;go_ret;exact ⟨rfl, hB6⟩
   have n1 : ((n : Int) == 0) = false := by rw [beq_eq_false_iff_ne]; omega
   cases m78 with
   | false =>
    have hR : RES = false := by rw [HQ.out, decide_eq_false n0]; rfl
    subst hR;have HC9 := HH78;go_wp2_with fail;refine (HC9.out _).mono ?_;rintro e vz ⟨rfl, rfl⟩;go_wp2_with fail;go_ret;exact ⟨rfl, hB6⟩
   | true =>
    have HC9 := HH78
    by_cases n2 : (n : Int) ≤ 32
    ·have hR : RES = true := by rw [HQ.out, decide_eq_false n0, decide_eq_true (by omega)]; rfl
     subst hR;go_wp2_with fail;refine (HC9.out _).mono ?_;rintro e vz ⟨rfl, rfl⟩;go_wp2_with fail;go_ret;exact ⟨rfl, hB6⟩
    ·have hR : RES = false := by rw [HQ.out, decide_eq_false n0, decide_eq_false (by omega)]; rfl
     subst hR;go_wp2_with fail;refine (HC9.out _).mono ?_;rintro e vz ⟨rfl, rfl⟩;go_wp2_with fail;go_ret;exact ⟨retB (decide_eq_false (show ¬ (n : Int) ≤ 32 by omega)), hB6⟩
  have x12 : (z12 != 0) = true := by simpa using y12
  cases m80 with
  | false =>
   have hR : RES = false := by rw [HP.out, decide_eq_false y12]; rfl
   subst hR;have HC8 := HH80;go_wp2_with fail;refine (HC8.out _).mono ?_;rintro e vz ⟨rfl, rfl⟩;go_wp2_with fail;go_ret;exact ⟨rfl, hB6⟩
  | true =>
   have HQ : Hid (RES = (decide (n = 0) || (m78 && decide (n ≤ 32)))) := hJz (by rw [HP.out]; simp);have HC8 := HH80;go_wp2_with fail;refine (HC8.out _).mono ?_;rintro e vz ⟨rfl, rfl⟩;go_upto_region 10 with fail
   by_cases n0 : n = 0
   ·have hR : RES = true := by rw [HQ.out, n0]; rfl
    subst hR;subst n0;go_wp2_with fail;go_ret;exact ⟨rfl, hB6⟩
   have n1 : ((n : Int) == 0) = false := by rw [beq_eq_false_iff_ne]; omega
   cases m78 with
   | false =>
    have hR : RES = false := by rw [HQ.out, decide_eq_false n0]; rfl
    subst hR;have HC9 := HH78;go_wp2_with fail;refine (HC9.out _).mono ?_;rintro e vz ⟨rfl, rfl⟩;go_wp2_with fail;go_ret;exact ⟨rfl, hB6⟩
   | true =>
    have HC9 := HH78
    by_cases n2 : (n : Int) ≤ 32
    ·have hR : RES = true := by rw [HQ.out, decide_eq_false n0, decide_eq_true (by omega)]; rfl
     subst hR;go_wp2_with fail;refine (HC9.out _).mono ?_;rintro e vz ⟨rfl, rfl⟩;go_wp2_with fail;go_ret;exact ⟨rfl, hB6⟩
    ·have hR : RES = false := by rw [HQ.out, decide_eq_false n0, decide_eq_false (by omega)]; rfl
     subst hR;go_wp2_with fail;refine (HC9.out _).mono ?_;rintro e vz ⟨rfl, rfl⟩;go_wp2_with fail;go_ret;exact ⟨retB (decide_eq_false (show ¬ (n : Int) ≤ 32 by omega)), hB6⟩
 have x11 : (z11 != 0) = true := by simpa using y11
 cases m81 with
 | false =>
  have hR : RES = false := by rw [HIS2.out, decide_eq_false y11]; rfl
  subst hR;have HC7 := HH81;go_wp2_with fail;refine (HC7.out _).mono ?_;rintro e vz ⟨rfl, rfl⟩;go_wp2_with fail;go_ret;exact ⟨rfl, hB6⟩
 | true =>
  have HP : Hid (RES = ((decide (z12 = 0) || m80) && (decide (n = 0) || (m78 && decide (n ≤ 32))))) := hJz (by rw [HIS2.out]; simp);have HC7 := HH81
  by_cases y12 : z12 = 0
  ·subst y12;have HQ : Hid (RES = (decide (n = 0) || (m78 && decide (n ≤ 32)))) := hJz (by rw [HP.out]; simp);go_wp2_with fail;refine (HC7.out _).mono ?_;rintro e vz ⟨rfl, rfl⟩;go_upto_region 10 with fail
   by_cases n0 : n = 0
   ·have hR : RES = true := by rw [HQ.out, n0]; rfl
    subst hR;subst n0;go_wp2_with fail;go_ret;exact ⟨rfl, hB6⟩
   have n1 : ((n : Int) == 0) = false := by rw [beq_eq_false_iff_ne]; omega
   cases m78 with
   | false =>
    have hR : RES = false := by rw [HQ.out, decide_eq_false n0]; rfl
    subst hR;have HC9 := HH78;go_wp2_with fail;refine (HC9.out _).mono ?_;rintro e vz ⟨rfl, rfl⟩;go_wp2_with fail;go_ret;exact ⟨rfl, hB6⟩
   | true =>
    have HC9 := HH78
    by_cases n2 : (n : Int) ≤ 32
    ·have hR : RES = true := by rw [HQ.out, decide_eq_false n0, decide_eq_true (by omega)]; rfl
     subst hR;go_wp2_with fail;refine (HC9.out _).mono ?_;rintro e vz ⟨rfl, rfl⟩;go_wp2_with fail;go_ret;exact ⟨rfl, hB6⟩
    ·have hR : RES = false := by rw [HQ.out, decide_eq_false n0, decide_eq_false (by omega)]; rfl
     subst hR;go_wp2_with fail;refine (HC9.out _).mono ?_;rintro e vz ⟨rfl, rfl⟩;go_wp2_with fail;go_ret;exact ⟨retB (decide_eq_false (show ¬ (n : Int) ≤ 32 by omega)), hB6⟩
  have x12 : (z12 != 0) = true := by simpa using y12
  cases m80 with
  | false =>
   have hR : RES = false := by rw [HP.out, decide_eq_false y12]; rfl
   subst hR;have HC8 := HH80;go_wp2_with fail;refine (HC7.out _).mono ?_;rintro e vz ⟨rfl, rfl⟩;go_wp2_with fail;refine (HC8.out _).mono ?_;rintro e vz ⟨rfl, rfl⟩;go_wp2_with fail;go_ret;exact ⟨rfl, hB6⟩
  | true =>
   have HQ : Hid (RES = (decide (n = 0) || (m78 && decide (n ≤ 32)))) := hJz (by rw [HP.out]; simp);have HC8 := HH80;go_wp2_with fail;refine (HC7.out _).mono ?_;rintro e vz ⟨rfl, rfl⟩;go_wp2_with fail;refine (HC8.out _).mono ?_;rintro e vz ⟨rfl, rfl⟩;go_upto_region 10 with fail
   by_cases n0 : n = 0
   ·have hR : RES = true := by rw [HQ.out, n0]; rfl
    subst hR;subst n0;go_wp2_with fail;go_ret;exact ⟨rfl, hB6⟩
   have n1 : ((n : Int) == 0) = false := by rw [beq_eq_false_iff_ne]; omega
   cases m78 with
   | false =>
    have hR : RES = false := by rw [HQ.out, decide_eq_false n0]; rfl
    subst hR;have HC9 := HH78;go_wp2_with fail;refine (HC9.out _).mono ?_;rintro e vz ⟨rfl, rfl⟩;go_wp2_with fail;go_ret;exact ⟨rfl, hB6⟩
   | true =>
    have HC9 := HH78
    by_cases n2 : (n : Int) ≤ 32
    ·have hR : RES = true := by rw [HQ.out, decide_eq_false n0, decide_eq_true (by omega)]; rfl
     subst hR;go_wp2_with fail;refine (HC9.out _).mono ?_;rintro e vz ⟨rfl, rfl⟩;go_wp2_with fail;go_ret;exact ⟨rfl, hB6⟩
    ·have hR : RES = false := by rw [HQ.out, decide_eq_false n0, decide_eq_false (by omega)]; rfl
     subst hR;go_wp2_with fail;refine (HC9.out _).mono ?_;rintro e vz ⟨rfl, rfl⟩;go_wp2_with fail;go_ret;exact ⟨retB (decide_eq_false (show ¬ (n : Int) ≤ 32 by omega)), hB6⟩
end
end Go.Proofs.YtpmnjojednbnpaaGreatDoor
