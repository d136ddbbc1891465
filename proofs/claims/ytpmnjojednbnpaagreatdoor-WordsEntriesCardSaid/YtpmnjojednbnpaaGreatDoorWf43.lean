import Derived.Test.YtpmnjojednbnpaaGreatDoorWf42
set_option maxHeartbeats 16000000
set_option maxRecDepth 100000
set_option linter.unusedVariables false
set_option linter.unusedSimpArgs false
namespace Go.Proofs.YtpmnjojednbnpaaGreatDoor
open Go.ChangeShapes Go.WideShapes Go.ChangeAt Go.RowKit
section
theorem nat_gt0 {a : Nat} (h : a = 0) : decide ((0 : Int) < (a : Int)) = false ∧ decide (0 < a) = false := ⟨decide_eq_false (by omega), decide_eq_false (by omega)⟩
theorem nat_gt1 {a : Nat} (h : ¬ a = 0) : decide ((0 : Int) < (a : Int)) = true ∧ (0 : Int) < (a : Int) ∧ 0 < a := ⟨decide_eq_true (by omega), by omega, by omega⟩
theorem rentry (z n : Int) (B K : Option Addr) (kb kk : Nat) (bs : List Nat) (ks : List Int) (w : World) (hz : In64p z) (hn : In64p n) (hbl : bs.length ≤ 10000) (hbk : bs.length ≤ kb) (hkm : kb ≤ maxLen) (ho : Oct bs) (sb : Sl w B (by8 bs)) (hkl : ks.length ≤ 1000) (h6 : ∀ x ∈ ks, In64p x) (sk : Sl w K (ints .i64 ks)) :
  Calls Tryz.prog 21 #[.agg #[.int .i64 z, .slice B bs.length kb, .int .i64 n, .slice K ks.length kk]] w fun e w' => e = entA (entE z bs n ks) ∧ Below w.heap.size w w' := by
 obtain ⟨lb, hlb⟩ : ∃ lb, bs.length = lb := ⟨_, rfl⟩;obtain ⟨lk, hlk⟩ : ∃ lk, ks.length = lk := ⟨_, rfl⟩
 have HENT : Hid (entE z bs n ks = if z = 1 ∧ n = 0 ∧ lk = 0 then (if okD (decC bs) = true then some (lineB (decC bs).z (decC bs).nums) else none)
   else if z = 2 ∧ lb = 0 then some (Lib.join (fuseL n ks) [32])
   else if z = 3 ∧ lb = 0 ∧ n = 0 ∧ lk = 0 then some powerW
   else if z = 4 ∧ lb = 0 ∧ n = 0 ∧ lk = 0 then some compactW
   else none) := hJz (by rw [← hlb, ← hlk]; rfl)
 have hx0 := heap_alloc_new w (.cells #[.int .i64 z, .slice B lb kb, .int .i64 n, .slice K lk kk] 57);have hB0 := since_alloc (Below.refl _ w) (.cells #[.int .i64 z, .slice B lb kb, .int .i64 n, .slice K lk kk] 57);obtain ⟨b, hb⟩ : ∃ b, w.heap.size = b := ⟨_, rfl⟩;have hz0 : (w.alloc (.cells #[.int .i64 z, .slice B lb kb, .int .i64 n, .slice K lk kk] 57)).heap.size = b + 1 := by rw [← hb]; exact Array.size_push _
 have HSL : Hid (∀ V, Below b w V → Sl V B (by8 bs) ∧ Sl V K (ints .i64 ks)) := hJz fun V hV => by
  rw [← hb] at hV;exact ⟨sb.below hV, sk.below hV⟩
 rw [hb] at hx0 hB0 ⊢;obtain ⟨W1, hW1⟩ : ∃ W1, w.alloc (.cells #[.int .i64 z, .slice B lb kb, .int .i64 n, .slice K lk kk] 57) = W1 := ⟨_, rfl⟩;rw [hW1] at hx0 hB0 hz0;have HW1 := hJz hW1;have HBW := hJz hb;have HK1 : Hid (∀ V, Below W1.heap.size W1 V → V.heap[b]? = some (.cells #[.int .i64 z, .slice B lb kb, .int .i64 n, .slice K lk kk] 57 (0, 0)) ∧ Below b w V) := hJz fun V hV => ⟨(hV.block b (by omega)).trans hx0, hB0.trans (hV.mono (by omega))⟩
 -- the decoded command
 have hdec := rdecode34 B kb bs W1 hbl hbk hkm ho (HSL.out W1 hB0).1;rw [okE_okD] at hdec;have HDEC := hJz hdec;clear hdec;obtain ⟨OK, hOK⟩ : ∃ OK, okD (decC bs) = OK := ⟨_, rfl⟩;have hYL := decC_len bs;obtain ⟨hY6, hN6⟩ := decC_in bs;obtain ⟨NN, hNN⟩ : ∃ NN, (decC bs).nums = NN := ⟨_, rfl⟩
 obtain ⟨y0, y1, y2, y3, y4, y5, y6, y7, y8, y9, y10, y11, y12, hYS⟩ : ∃ y0 y1 y2 y3 y4 y5 y6 y7 y8 y9 y10 y11 y12, (decC bs).z = [y0, y1, y2, y3, y4, y5, y6, y7, y8, y9, y10, y11, y12] := by
  match (decC bs).z, hYL with
  | [y0, y1, y2, y3, y4, y5, y6, y7, y8, y9, y10, y11, y12], _ => exact ⟨_, _, _, _, _, _, _, _, _, _, _, _, _, rfl⟩
 have hOKZ : OK = true → okZ [y0, y1, y2, y3, y4, y5, y6, y7, y8, y9, y10, y11, y12] NN.length = true := fun h => by
  rw [h] at hOK;unfold okD at hOK;rw [Bool.and_eq_true, hYS, hNN] at hOK;exact hOK.2
 rw [hYS] at hY6;rw [hNN] at hN6;rw [hOK, hYS, hNN] at HENT;rw [hOK, hYS, hNN, hlb] at HDEC;have HOKZ := hJz hOKZ;have HY6 := hJz hY6;have HN6 := hJz hN6;have HZ := hJz hz;have HSMN := hJz (fun V => rnum40 n hn V);have HSM : Hid (∀ x ∈ ks, ∀ V, Calls Tryz.prog 35 #[.int .i64 x] V fun e w' => e = .returned (.string (S8 (Lib.itoa x))) ∧ Below V.heap.size V w') := hJz fun x hx V => rnum40 x (h6 x hx) V;have HI6 := hJz h6;have HNL := hJz (itoa_len n hn);have HLW : Hid (∀ j, Lw 1002 (fuseL n (ks.take j))) := hJz fun j => (fuseL_lw hn fun x hx => h6 x (List.mem_of_mem_take hx)).up (by rw [List.length_take]; omega);have HLK := hJz hlk;have HKL := hJz (show lk ≤ 1000 by omega);have k0 : W1.cell? ⟨b, 0, none⟩ = some (.int .i64 z) := (cell_of_row W1 b 0 _ _ (0, 0) hx0).trans rfl;have k1 : W1.cell? ⟨b, 1, none⟩ = some (.slice B lb kb) := (cell_of_row W1 b 1 _ _ (0, 0) hx0).trans rfl;have k2 : W1.cell? ⟨b, 2, none⟩ = some (.int .i64 n) := (cell_of_row W1 b 2 _ _ (0, 0) hx0).trans rfl;have k3 : W1.cell? ⟨b, 3, none⟩ = some (.slice K lk kk) := (cell_of_row W1 b 3 _ _ (0, 0) hx0).trans rfl;have kl := (Array.getElem?_eq_some_iff.1 hx0).1;have HB1 := hJz hB0;have HZ0 := hJz hz0;rw [hlb, hlk];clear hx0 hB0 hb hz0 hW1 sb sk hbk hkm hYL hY6 hN6 hNN hYS hOKZ hOK hlb hlk hz hn h6 hbl hkl ho;go_enter Tryz.func21, Tryz.ntmps21;go_upto_region 1 with fail;rw [HW1.out, HBW.out];clear HW1 HBW;go_cut [21] (fun c wx => c = .bool (decide (z = 1 ∧ n = 0 ∧ lk = 0)) ∧ W1 = wx)
 case first =>
  by_cases hz : z = 1
  ·have ez := int_zero hz
   by_cases hn : n = 0
   ·have en := int_zero hn
    by_cases hlk : lk = 0
    ·have elk := nat_zero hlk;have HD := hJz (decide_eq_true (p := z = 1 ∧ n = 0 ∧ lk = 0) ⟨hz, hn, hlk⟩);go_wp2_with fail;go_meet
     case rel => exact ⟨congrArg Value.bool HD.out.symm, rfl⟩
    ·have elk := nat_nz hlk;have HD := hJz (decide_eq_false (p := z = 1 ∧ n = 0 ∧ lk = 0) (fun h => hlk (h.2.2)));go_wp2_with fail;go_meet
     case rel => exact ⟨congrArg Value.bool HD.out.symm, rfl⟩
   ·have en := int_nz hn;have HD := hJz (decide_eq_false (p := z = 1 ∧ n = 0 ∧ lk = 0) (fun h => hn (h.2.1)));go_wp2_with fail;go_meet
    case rel => exact ⟨congrArg Value.bool HD.out.symm, rfl⟩
  ·have ez := int_nz hz;have HD := hJz (decide_eq_false (p := z = 1 ∧ n = 0 ∧ lk = 0) (fun h => hz (h.1)));go_wp2_with fail;go_meet
   case rel => exact ⟨congrArg Value.bool HD.out.symm, rfl⟩
 case rest =>
 obtain ⟨rfl, rfl⟩ := hcut;obtain ⟨c1, hc1⟩ : ∃ c1, decide (z = 1 ∧ n = 0 ∧ lk = 0) = c1 := ⟨_, rfl⟩;rw [hc1];have Hc1 := hJz hc1;clear hc1
 cases c1 with
 | true =>
  have hc := of_decide_eq_true Hc1.out;have HEQ : Hid (entE z bs n ks = if OK = true then some (lineB [y0, y1, y2, y3, y4, y5, y6, y7, y8, y9, y10, y11, y12] NN) else none) := hJz (by rw [HENT.out, if_pos hc]);clear HENT hc
  cases OK with
  | false =>
   have HDC : Hid (Calls Tryz.prog 50 #[.slice B lb kb] W1 fun e w' => e = .returned (.tuple #[.agg #[.int .i64 0, .int .i64 0, .int .i64 0, .int .i64 0, .int .i64 0, .int .i64 0, .int .i64 0, .int .i64 0, .int .i64 0, .int .i64 0, .int .i64 0, .int .i64 0, .int .i64 0, .slice none 0 0], .int .i64 3]) ∧ Below W1.heap.size W1 w') := hJz (HDEC.out.mono fun e w' h => by
    have h1 := h.1;unfold DRes34 at h1;rw [if_neg (by decide)] at h1
    exact ⟨h1, h.2⟩)
   go_wp2_with fail;refine HDC.out.mono ?_;rintro e v1 ⟨rfl, hb1⟩;have hB1 := (HK1.out _ (since_step hb1 (since_alloc (Below.refl _ v1) (.cells #[.int .i64 0, .int .i64 0, .int .i64 0, .int .i64 0, .int .i64 0, .int .i64 0, .int .i64 0, .int .i64 0, .int .i64 0, .int .i64 0, .int .i64 0, .int .i64 0, .int .i64 0, .slice none 0 0] 26)))).2;go_wp2_with fail;go_ret2;exact ⟨by rw [HEQ.out]; rfl, hB1⟩
  | true =>
   have HDC : Hid (Calls Tryz.prog 50 #[.slice B lb kb] W1 fun e w' => (∃ A5 c5, e = .returned (.tuple #[.agg #[.int .i64 y0, .int .i64 y1, .int .i64 y2, .int .i64 y3, .int .i64 y4, .int .i64 y5, .int .i64 y6, .int .i64 y7, .int .i64 y8, .int .i64 y9, .int .i64 y10, .int .i64 y11, .int .i64 y12, .slice A5 NN.length c5], .int .i64 0]) ∧ Sl w' A5 (ints .i64 NN)) ∧ Below W1.heap.size W1 w') := hJz (HDEC.out.mono fun e w' h => by
    have h1 := h.1;unfold DRes34 at h1;rw [if_pos rfl] at h1;obtain ⟨A5, c5, e1, own⟩ := h1
    exact ⟨⟨A5, c5, e1, Sl.of_own own⟩, h.2⟩)
   go_wp2_with fail;refine HDC.out.mono ?_;rintro e v1 ⟨⟨A5, c5, rfl, hs5⟩, hb1⟩;have hal := since_alloc (Below.refl _ v1) (.cells #[.int .i64 y0, .int .i64 y1, .int .i64 y2, .int .i64 y3, .int .i64 y4, .int .i64 y5, .int .i64 y6, .int .i64 y7, .int .i64 y8, .int .i64 y9, .int .i64 y10, .int .i64 y11, .int .i64 y12, .slice A5 NN.length c5] 26);have hyy := heap_alloc_new v1 (.cells #[.int .i64 y0, .int .i64 y1, .int .i64 y2, .int .i64 y3, .int .i64 y4, .int .i64 y5, .int .i64 y6, .int .i64 y7, .int .i64 y8, .int .i64 y9, .int .i64 y10, .int .i64 y11, .int .i64 y12, .slice A5 NN.length c5] 26);obtain ⟨yb, hyb⟩ : ∃ yb, v1.heap.size = yb := ⟨_, rfl⟩;obtain ⟨Y2, hY2⟩ : ∃ Y2, v1.alloc (.cells #[.int .i64 y0, .int .i64 y1, .int .i64 y2, .int .i64 y3, .int .i64 y4, .int .i64 y5, .int .i64 y6, .int .i64 y7, .int .i64 y8, .int .i64 y9, .int .i64 y10, .int .i64 y11, .int .i64 y12, .slice A5 NN.length c5] 26) = Y2 := ⟨_, rfl⟩;rw [hyb] at hyy;rw [hY2] at hal hyy;have hb2 := since_step hb1 hal;have hs6 := hs5.below hal;have hz := HOKZ.out (by first | trivial | rfl)
   have hnl : NN.length ≤ 32 := by
    simp only [okZ, Bool.and_eq_true, decide_eq_true_eq] at hz;exact hz.1.1.1.2.2.2.2
   have hLI := rlineE y0 y1 y2 y3 y4 y5 y6 y7 y8 y9 y10 y11 y12 A5 c5 NN Y2 (by omega) HY6.out HN6.out hs6;unfold lineA at hLI;rw [if_pos hz] at hLI;have HLI := hJz hLI;have HB2 := hJz hb2;have HY2 := hJz hY2;have HYB := hJz hyb;have x0 : Y2.cell? ⟨yb, 0, none⟩ = some (.int .i64 y0) := (cell_of_row Y2 yb 0 _ _ (0, 0) hyy).trans rfl;have x1 : Y2.cell? ⟨yb, 1, none⟩ = some (.int .i64 y1) := (cell_of_row Y2 yb 1 _ _ (0, 0) hyy).trans rfl;have x2 : Y2.cell? ⟨yb, 2, none⟩ = some (.int .i64 y2) := (cell_of_row Y2 yb 2 _ _ (0, 0) hyy).trans rfl;have x3 : Y2.cell? ⟨yb, 3, none⟩ = some (.int .i64 y3) := (cell_of_row Y2 yb 3 _ _ (0, 0) hyy).trans rfl;have x4 : Y2.cell? ⟨yb, 4, none⟩ = some (.int .i64 y4) := (cell_of_row Y2 yb 4 _ _ (0, 0) hyy).trans rfl;have x5 : Y2.cell? ⟨yb, 5, none⟩ = some (.int .i64 y5) := (cell_of_row Y2 yb 5 _ _ (0, 0) hyy).trans rfl;have x6 : Y2.cell? ⟨yb, 6, none⟩ = some (.int .i64 y6) := (cell_of_row Y2 yb 6 _ _ (0, 0) hyy).trans rfl;have x7 : Y2.cell? ⟨yb, 7, none⟩ = some (.int .i64 y7) := (cell_of_row Y2 yb 7 _ _ (0, 0) hyy).trans rfl;have x8 : Y2.cell? ⟨yb, 8, none⟩ = some (.int .i64 y8) := (cell_of_row Y2 yb 8 _ _ (0, 0) hyy).trans rfl;have x9 : Y2.cell? ⟨yb, 9, none⟩ = some (.int .i64 y9) := (cell_of_row Y2 yb 9 _ _ (0, 0) hyy).trans rfl;have x10 : Y2.cell? ⟨yb, 10, none⟩ = some (.int .i64 y10) := (cell_of_row Y2 yb 10 _ _ (0, 0) hyy).trans rfl;have x11 : Y2.cell? ⟨yb, 11, none⟩ = some (.int .i64 y11) := (cell_of_row Y2 yb 11 _ _ (0, 0) hyy).trans rfl;have x12 : Y2.cell? ⟨yb, 12, none⟩ = some (.int .i64 y12) := (cell_of_row Y2 yb 12 _ _ (0, 0) hyy).trans rfl;have x13 : Y2.cell? ⟨yb, 13, none⟩ = some (.slice A5 NN.length c5) := (cell_of_row Y2 yb 13 _ _ (0, 0) hyy).trans rfl;have xl := (Array.getElem?_eq_some_iff.1 hyy).1;clear hal hyy hyb hY2 hb2 hs6 hz hnl hLI hs5 hb1;go_upto_region 3 with fail;rw [HY2.out, HYB.out];go_wp2_with fail;refine HLI.out.mono ?_;rintro e v3 ⟨rfl, hb3⟩;have hB3 := (HK1.out _ (since_step HB2.out hb3)).2;go_wp2_with fail;go_ret2;exact ⟨by rw [HEQ.out]; rfl, hB3⟩
 | false =>
  have hc1 := of_decide_eq_false Hc1.out;rw [if_neg hc1] at HENT;clear hc1;go_upto_region 6 with fail;go_cut [42] (fun c wx => c = .bool (decide (z = 2 ∧ lb = 0)) ∧ W1 = wx)
  case first =>
   by_cases hz : z = 2
   ·have ez := int_zero hz
    by_cases hlb : lb = 0
    ·have elb := nat_zero hlb;have HD := hJz (decide_eq_true (p := z = 2 ∧ lb = 0) ⟨hz, hlb⟩);go_wp2_with fail;go_meet
     case rel => exact ⟨congrArg Value.bool HD.out.symm, rfl⟩
    ·have elb := nat_nz hlb;have HD := hJz (decide_eq_false (p := z = 2 ∧ lb = 0) (fun h => hlb (h.2)));go_wp2_with fail;go_meet
     case rel => exact ⟨congrArg Value.bool HD.out.symm, rfl⟩
   ·have ez := int_nz hz;have HD := hJz (decide_eq_false (p := z = 2 ∧ lb = 0) (fun h => hz (h.1)));go_wp2_with fail;go_meet
    case rel => exact ⟨congrArg Value.bool HD.out.symm, rfl⟩
  case rest =>
  obtain ⟨rfl, rfl⟩ := hcut;obtain ⟨c2, hc2⟩ : ∃ c2, decide (z = 2 ∧ lb = 0) = c2 := ⟨_, rfl⟩;rw [hc2];have Hc2 := hJz hc2;clear hc2
  cases c2 with
  | true =>
   have hc := of_decide_eq_true Hc2.out;have HEQ : Hid (entE z bs n ks = some (Lib.join (fuseL n ks) [32])) := hJz (by rw [HENT.out, if_pos hc]);clear HENT hc
   have HCE : Hid (∀ V, Below W1.heap.size W1 V → V.cell? ⟨b, 0, none⟩ = some (.int .i64 z) ∧ V.cell? ⟨b, 1, none⟩ = some (.slice B lb kb) ∧ V.cell? ⟨b, 2, none⟩ = some (.int .i64 n) ∧ V.cell? ⟨b, 3, none⟩ = some (.slice K lk kk) ∧ b < V.heap.size) := hJz fun V hC => by
    have h := (HK1.out V hC).1;exact ⟨(cell_of_row V _ 0 _ _ (0, 0) h).trans rfl, (cell_of_row V _ 1 _ _ (0, 0) h).trans rfl, (cell_of_row V _ 2 _ _ (0, 0) h).trans rfl, (cell_of_row V _ 3 _ _ (0, 0) h).trans rfl, (Array.getElem?_eq_some_iff.1 h).1⟩
   obtain ⟨DN, hDN⟩ : ∃ D, Lib.itoa n = D := ⟨_, rfl⟩;rw [hDN] at HSMN HNL;obtain ⟨X1, hX1⟩ : ∃ X, [102, 117, 115, 101, 32] ++ DN = X := ⟨_, rfl⟩;have ad : ∀ W, (Op.stringOp .add (⟨#[102, 117, 115, 101, 32]⟩ : ByteArray) (S8 DN)).run Tryz.prog W = .ok (.string (S8 X1)) W := by rw [← hX1]; exact add_strW [102, 117, 115, 101, 32] DN (by have := HNL.out; simp; omega)
   have HX1 : Hid (X1 = Lib.join (fuseL n (ks.take 0)) [32]) := hJz (by rw [← hX1, ← hDN]; show _ = Lib.join [fuseW, Lib.itoa n] [32]; rw [join_jn]; simp [jn, fuseW]);clear hX1 hDN HNL;go_wp2_with fail;refine (HSMN.out _).mono ?_;rintro e v1 ⟨rfl, hb1⟩;have HB0 := hJz hb1;clear hb1 k0 k1 k2 k3 kl HSMN;go_wp2_with fail;clear ad;go_loopw [6, 7] (fun sv iv wr => ∃ (j : Nat), j ≤ lk ∧ iv = .int .i64 (j : Int) ∧ sv = .string (S8 (Lib.join (fuseL n (ks.take j)) [32])) ∧ Below W1.heap.size W1 wr) (fun _ iv _ => lk - (intOf iv).toNat)
   case atStart => exact ⟨0, by omega, rfl, congrArg (fun l => Value.string (S8 l)) HX1.out, HB0.out⟩
   case round =>
    clear HB0 HX1;obtain ⟨j, hj1, rfl, rfl, hW4⟩ := hrel
    by_cases hj : j < lk
    ·have hjl : (j : Int) < (lk : Int) := by omega
     have hj0 : (0 : Int) ≤ (j : Int) := by omega
     have hj9 : lk ≤ 1000 := HKL.out;obtain ⟨hxb, hB⟩ := HK1.out wr hW4;have hjk : j < ks.length := by have := HLK.out; omega
     obtain ⟨b2, o2, hA2, c0⟩ := (HSL.out wr hB).2.int hjk;obtain ⟨x, hx⟩ : ∃ x, ks[j] = x := ⟨_, rfl⟩;have hmem : x ∈ ks := by rw [← hx]; exact List.getElem_mem hjk
     have hTJ : fuseL n (ks.take (j + 1)) = fuseL n (ks.take j) ++ [Lib.itoa x] := by unfold fuseL; rw [take_snoc ks j hjk, List.map_append, hx]; rfl
     have HNM := hJz (HSM.out x hmem);rw [hx] at c0;have hl2 := itoa_len x (HI6.out x hmem);have hTl := join_len (HLW.out j) (by omega);obtain ⟨DX, hDX⟩ : ∃ DX, Lib.itoa x = DX := ⟨_, rfl⟩;obtain ⟨T, hT⟩ : ∃ T, Lib.join (fuseL n (ks.take j)) [32] = T := ⟨_, rfl⟩;rw [hDX] at HNM hl2 hTJ;rw [hT] at hTl;rw [hT];obtain ⟨X1, hX1⟩ : ∃ X, T ++ ([32] : List UInt8) = X := ⟨_, rfl⟩;obtain ⟨X2, hX2⟩ : ∃ X, X1 ++ DX = X := ⟨_, rfl⟩;have hl1 : X1.length = T.length + 1 := by rw [← hX1]; simp
     have ad1 : ∀ W, (Op.stringOp .add (S8 T) (⟨#[32]⟩ : ByteArray)).run Tryz.prog W = .ok (.string (S8 X1)) W := by rw [← hX1]; exact add_strW T [32] (by simp only [List.length_cons, List.length_nil]; omega)
     have ad2 : ∀ W, (Op.stringOp .add (S8 X1) (S8 DX)).run Tryz.prog W = .ok (.string (S8 X2)) W := by rw [← hX2]; exact add_strW X1 DX (by omega)
     have HTJ : Hid (Value.string (S8 X2) = .string (S8 (Lib.join (fuseL n (ks.take (j + 1))) [32]))) := hJz (by
      rw [hTJ, join_more _ _ (by simp [fuseL]), hT, ← hX2, ← hX1]; simp [jn])
     have HW4 := hJz hW4;obtain ⟨k0, k1, k2, k3, kl⟩ := HCE.out wr hW4;subst hA2;clear hx hTJ hB hW4 hxb hDX hT hTl hl2 hmem hX1 hX2 hl1 hjk;go_wp2_with fail;refine (HNM.out _).mono ?_;rintro e y1 ⟨rfl, hb1⟩;have hWN := since_step HW4.out hb1;clear k0 k1 k2 k3 kl hb1;go_wp2_with fail;go_roundw
     case rel => exact ⟨j + 1, by omega, by go_num, HTJ.out, hWN⟩
     case measure => simp [intOf]; omega
    ·obtain rfl : j = lk := by omega
     have hB9 := (HK1.out _ hW4).2;obtain ⟨J, hJ⟩ : ∃ J, Lib.join (fuseL n (ks.take j)) [32] = J := ⟨_, rfl⟩;have HEQ2 : Hid (entE z bs n ks = some J) := hJz (by rw [HEQ.out, ← hJ, ← HLK.out, List.take_length]);rw [hJ];obtain ⟨k0, k1, k2, k3, kl⟩ := HCE.out wr hW4;clear hJ hW4;go_wp2_with fail;go_ret2;exact ⟨by rw [HEQ2.out]; rfl, hB9⟩
  | false =>
   have hc2 := of_decide_eq_false Hc2.out;rw [if_neg hc2] at HENT;clear hc2;have HBE := hJz (HK1.out _ (Below.refl _ W1)).2;go_upto_region 13 with fail;go_cut [88] (fun c wx => c = .bool (decide (¬ (lb = 0 ∧ n = 0 ∧ lk = 0 ∧ 3 ≤ z ∧ z ≤ 4))) ∧ W1 = wx)
   case first =>
    by_cases hlb : lb = 0
    ·obtain ⟨q1, q1'⟩ := nat_gt0 hlb
     by_cases hn : n = 0
     ·have q2 : (n != 0) = false := by rw [hn]; rfl
      by_cases hlk : lk = 0
      ·obtain ⟨q3, q3'⟩ := nat_gt0 hlk
       by_cases h3 : 3 ≤ z
       ·have q4 : decide (z < 3) = false := decide_eq_false (by omega);have q4' : ¬ z < 3 := by omega
        by_cases h4 : z ≤ 4
        ·have q5 : decide (4 < z) = false := decide_eq_false (by omega);have q5' : ¬ 4 < z := by omega
         have HD := hJz (decide_eq_false (p := ¬ (lb = 0 ∧ n = 0 ∧ lk = 0 ∧ 3 ≤ z ∧ z ≤ 4)) (fun h => h ⟨hlb, hn, hlk, h3, h4⟩));clear h3 h4 hlb hn hlk;go_wp2_with fail;go_meet
         case rel => exact ⟨congrArg Value.bool HD.out.symm, rfl⟩
        ·have q5 : decide (4 < z) = true := decide_eq_true (by omega);have q5' : 4 < z := by omega
         have HD := hJz (decide_eq_true (p := ¬ (lb = 0 ∧ n = 0 ∧ lk = 0 ∧ 3 ≤ z ∧ z ≤ 4)) (fun h => h4 h.2.2.2.2));clear h3 h4 hlb hn hlk;go_wp2_with fail;go_meet
         case rel => exact ⟨congrArg Value.bool HD.out.symm, rfl⟩
       ·have q4 : decide (z < 3) = true := decide_eq_true (by omega);have q4' : z < 3 := by omega
        have HD := hJz (decide_eq_true (p := ¬ (lb = 0 ∧ n = 0 ∧ lk = 0 ∧ 3 ≤ z ∧ z ≤ 4)) (fun h => h3 h.2.2.2.1));clear h3 hlb hn hlk;go_wp2_with fail;go_meet
        case rel => exact ⟨congrArg Value.bool HD.out.symm, rfl⟩
      ·obtain ⟨q3, q3', q3''⟩ := nat_gt1 hlk;have HD := hJz (decide_eq_true (p := ¬ (lb = 0 ∧ n = 0 ∧ lk = 0 ∧ 3 ≤ z ∧ z ≤ 4)) (fun h => hlk h.2.2.1));clear hlb hn hlk;go_wp2_with fail;go_meet
       case rel => exact ⟨congrArg Value.bool HD.out.symm, rfl⟩
     ·have q2 : (n != 0) = true := by simpa using hn
      have HD := hJz (decide_eq_true (p := ¬ (lb = 0 ∧ n = 0 ∧ lk = 0 ∧ 3 ≤ z ∧ z ≤ 4)) (fun h => hn h.2.1));clear hlb hn;go_wp2_with fail;go_meet
      case rel => exact ⟨congrArg Value.bool HD.out.symm, rfl⟩
    ·obtain ⟨q1, q1', q1''⟩ := nat_gt1 hlb;have HD := hJz (decide_eq_true (p := ¬ (lb = 0 ∧ n = 0 ∧ lk = 0 ∧ 3 ≤ z ∧ z ≤ 4)) (fun h => hlb h.1));clear hlb;go_wp2_with fail;go_meet
     case rel => exact ⟨congrArg Value.bool HD.out.symm, rfl⟩
   case rest =>
    obtain ⟨rfl, rfl⟩ := hcut;obtain ⟨c3, hc3⟩ : ∃ c3, decide (¬ (lb = 0 ∧ n = 0 ∧ lk = 0 ∧ 3 ≤ z ∧ z ≤ 4)) = c3 := ⟨_, rfl⟩;rw [hc3]
    cases c3 with
    | true =>
     have h := of_decide_eq_true hc3
     have HEQ : Hid (entE z bs n ks = none) := hJz (by
      rw [HENT.out, if_neg (fun k => h ⟨k.2.1, k.2.2.1, k.2.2.2, by omega, by omega⟩), if_neg (fun k => h ⟨k.2.1, k.2.2.1, k.2.2.2, by omega, by omega⟩)])
     clear h hc3 HENT;go_wp2_with fail;go_ret2;exact ⟨by rw [HEQ.out]; rfl, HBE.out⟩
    | false =>
     obtain ⟨h1, h2, h3, h4, h5⟩ := Classical.not_not.1 (of_decide_eq_false hc3)
     by_cases hz3 : z = 3
     ·have e3 := int_zero hz3;have HEQ : Hid (entE z bs n ks = some powerW) := hJz (by rw [HENT.out, if_pos ⟨hz3, h1, h2, h3⟩]);clear hc3 h1 h2 h3 h4 h5 HENT;go_wp2_with fail;go_ret2;exact ⟨by rw [HEQ.out]; rfl, HBE.out⟩
     ·have e3 := int_nz hz3;have HEQ : Hid (entE z bs n ks = some compactW) := hJz (by rw [HENT.out, if_neg (fun h => hz3 h.1), if_pos ⟨by omega, h1, h2, h3⟩]);clear hc3 h1 h2 h3 h4 h5 HENT;go_wp2_with fail;go_ret2;exact ⟨by rw [HEQ.out]; rfl, HBE.out⟩
end
end Go.Proofs.YtpmnjojednbnpaaGreatDoor
