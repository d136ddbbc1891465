import Derived.Test.YtpmnjojednbnpaaGreatDoorWf41
set_option maxHeartbeats 16000000
set_option maxRecDepth 100000
set_option linter.unusedVariables false
set_option linter.unusedSimpArgs false
namespace Go.Proofs.YtpmnjojednbnpaaGreatDoor
open Go.ChangeShapes Go.WideShapes Go.ChangeAt Go.RowKit
section
def fuseW : List UInt8 := [102, 117, 115, 101]
def powerW : List UInt8 := [112, 111, 119, 101, 114]
def compactW : List UInt8 := [99, 111, 109, 112, 97, 99, 116]
def fuseL (n : Int) (ks : List Int) : List (List UInt8) := fuseW :: Lib.itoa n :: ks.map Lib.itoa
def entE (z : Int) (bs : List Nat) (n : Int) (ks : List Int) : Option (List UInt8) :=
  if z = 1 ∧ n = 0 ∧ ks.length = 0 then (if okD (decC bs) = true then some (lineB (decC bs).z (decC bs).nums) else none)
  else if z = 2 ∧ bs.length = 0 then some (Lib.join (fuseL n ks) [32])
  else if z = 3 ∧ bs.length = 0 ∧ n = 0 ∧ ks.length = 0 then some powerW
  else if z = 4 ∧ bs.length = 0 ∧ n = 0 ∧ ks.length = 0 then some compactW
  else none
def entA (o : Option (List UInt8)) : Ending := .returned (.tuple #[.string (S8 (o.getD [])), .int .i64 (if o.isSome = true then 0 else 3)])
theorem fuseL_lw {n : Int} {ks : List Int} (hn : In64p n) (h6 : ∀ x ∈ ks, In64p x) : Lw (ks.length + 2) (fuseL n ks) := by
 have h1 := nums_lw h6;refine ⟨by simp [fuseL], fun x hx => ?_⟩
 rcases List.mem_cons.1 hx with rfl | hx
 ·decide
 ·rcases List.mem_cons.1 hx with rfl | hx
  ·have := itoa_len n hn; omega
  ·exact h1.2 x hx
theorem nat_zero {a : Nat} (h : a = 0) : ((a : Int) == 0) = true := by subst h; rfl
theorem nat_nz {a : Nat} (h : ¬ a = 0) : ((a : Int) == 0) = false := by rw [beq_eq_false_iff_ne]; omega
theorem int_zero {a c : Int} (h : a = c) : (a == c) = true := by rw [beq_iff_eq]; exact h
theorem int_nz {a c : Int} (h : ¬ a = c) : (a == c) = false := by rw [beq_eq_false_iff_ne]; exact h
theorem wentry (z n : Int) (B K : Option Addr) (kb kk : Nat) (bs : List Nat) (ks : List Int) (w : World) (hz : In64p z) (hn : In64p n) (hbl : bs.length ≤ 10000) (ho : Oct bs) (sb : Sl w B (by8 bs)) (hkl : ks.length ≤ 1000) (h6 : ∀ x ∈ ks, In64p x) (sk : Sl w K (ints .i64 ks)) (hE : EvB w.heap.size w) :
  Calls Tryz.prog 20 #[.agg #[.int .i64 z, .slice B bs.length kb, .int .i64 n, .slice K ks.length kk]] w fun e w' => e = entA (entE z bs n ks) ∧ Below w.heap.size w w' := by
 obtain ⟨lb, hlb⟩ : ∃ lb, bs.length = lb := ⟨_, rfl⟩;obtain ⟨lk, hlk⟩ : ∃ lk, ks.length = lk := ⟨_, rfl⟩
 have HENT : Hid (entE z bs n ks = if z = 1 ∧ n = 0 ∧ lk = 0 then (if okD (decC bs) = true then some (lineB (decC bs).z (decC bs).nums) else none)
   else if z = 2 ∧ lb = 0 then some (Lib.join (fuseL n ks) [32])
   else if z = 3 ∧ lb = 0 ∧ n = 0 ∧ lk = 0 then some powerW
   else if z = 4 ∧ lb = 0 ∧ n = 0 ∧ lk = 0 then some compactW
   else none) := hJz (by rw [← hlb, ← hlk]; rfl)
 have hx0 := heap_alloc_new w (.cells #[.int .i64 z, .slice B lb kb, .int .i64 n, .slice K lk kk] 57);have hB0 := since_alloc (Below.refl _ w) (.cells #[.int .i64 z, .slice B lb kb, .int .i64 n, .slice K lk kk] 57);obtain ⟨b, hb⟩ : ∃ b, w.heap.size = b := ⟨_, rfl⟩;have hz0 : (w.alloc (.cells #[.int .i64 z, .slice B lb kb, .int .i64 n, .slice K lk kk] 57)).heap.size = b + 1 := by rw [← hb]; exact Array.size_push _
 have HSL : Hid (∀ V, Below b w V → Sl V B (by8 bs) ∧ Sl V K (ints .i64 ks)) := hJz fun V hV => by
  rw [← hb] at hV;exact ⟨sb.below hV, sk.below hV⟩
 have HEVB : Hid (∀ V, Below b w V → EvB b V) := hJz fun V hV => by
  rw [← hb] at hV ⊢;exact hE.on hV
 rw [hb] at hx0 hB0 ⊢;obtain ⟨W1, hW1⟩ : ∃ W1, w.alloc (.cells #[.int .i64 z, .slice B lb kb, .int .i64 n, .slice K lk kk] 57) = W1 := ⟨_, rfl⟩;rw [hW1] at hx0 hB0 hz0;have HW1 := hJz hW1;have HBW := hJz hb;have HK1 : Hid (∀ V, Below W1.heap.size W1 V → V.heap[b]? = some (.cells #[.int .i64 z, .slice B lb kb, .int .i64 n, .slice K lk kk] 57 (0, 0)) ∧ Below b w V) := hJz fun V hV => ⟨(hV.block b (by omega)).trans hx0, hB0.trans (hV.mono (by omega))⟩
 have HEV1 : Hid (∀ V, Below W1.heap.size W1 V → EvB V.heap.size V) := hJz fun V hV => by
  have h1 := (HK1.out V hV).2;have hs := hV.size;exact (HEVB.out V h1).up (by omega)
 -- the decoded command
 have HDEC := hJz (decode34 B kb bs W1 hbl ho (HSL.out W1 hB0).1);obtain ⟨OK, hOK⟩ : ∃ OK, okD (decC bs) = OK := ⟨_, rfl⟩;have hYL := decC_len bs;obtain ⟨hY6, hN6⟩ := decC_in bs;obtain ⟨NN, hNN⟩ : ∃ NN, (decC bs).nums = NN := ⟨_, rfl⟩
 obtain ⟨y0, y1, y2, y3, y4, y5, y6, y7, y8, y9, y10, y11, y12, hYS⟩ : ∃ y0 y1 y2 y3 y4 y5 y6 y7 y8 y9 y10 y11 y12, (decC bs).z = [y0, y1, y2, y3, y4, y5, y6, y7, y8, y9, y10, y11, y12] := by
  match (decC bs).z, hYL with
  | [y0, y1, y2, y3, y4, y5, y6, y7, y8, y9, y10, y11, y12], _ => exact ⟨_, _, _, _, _, _, _, _, _, _, _, _, _, rfl⟩
 have hOKZ : OK = true → okZ [y0, y1, y2, y3, y4, y5, y6, y7, y8, y9, y10, y11, y12] NN.length = true := fun h => by
  rw [h] at hOK;unfold okD at hOK;rw [Bool.and_eq_true, hYS, hNN] at hOK;exact hOK.2
 rw [hYS] at hY6;rw [hNN] at hN6;rw [hOK, hYS, hNN] at HENT;rw [hOK, hYS, hNN, hlb] at HDEC;have HOKZ := hJz hOKZ;have HY6 := hJz hY6;have HN6 := hJz hN6;have HZ := hJz hz;have HSMN := hJz (fun V (h : Ev V) => wsmall n hn V h);have HSM : Hid (∀ x ∈ ks, ∀ V, Ev V → Calls Tryz.prog 27 #[.int .i64 x] V fun e w' => e = .returned (.string (S8 (Lib.itoa x))) ∧ Below V.heap.size V w') := hJz fun x hx V h => wsmall x (h6 x hx) V h;have HLW : Hid (Lw (ks.length + 2) (fuseL n ks)) := hJz (fuseL_lw hn h6);have HLK := hJz hlk;have HKL := hJz (show lk ≤ 1000 by omega);have k0 : W1.cell? ⟨b, 0, none⟩ = some (.int .i64 z) := (cell_of_row W1 b 0 _ _ (0, 0) hx0).trans rfl;have k1 : W1.cell? ⟨b, 1, none⟩ = some (.slice B lb kb) := (cell_of_row W1 b 1 _ _ (0, 0) hx0).trans rfl;have k2 : W1.cell? ⟨b, 2, none⟩ = some (.int .i64 n) := (cell_of_row W1 b 2 _ _ (0, 0) hx0).trans rfl;have k3 : W1.cell? ⟨b, 3, none⟩ = some (.slice K lk kk) := (cell_of_row W1 b 3 _ _ (0, 0) hx0).trans rfl;have kl := (Array.getElem?_eq_some_iff.1 hx0).1;have HB1 := hJz hB0;have HZ0 := hJz hz0;rw [hlb, hlk];clear hx0 hB0 hb hz0 hW1 hE sb sk hYL hY6 hN6 hNN hYS hOKZ hOK hlb hlk hz hn h6 hbl hkl ho;go_enter Tryz.func20, Tryz.ntmps20;go_upto_region 1 with fail;rw [HW1.out, HBW.out];clear HW1 HBW;go_cut [4] (fun c wx => c = .bool (decide (lb = 0 ∧ n = 0 ∧ lk = 0)) ∧ W1 = wx)
 case first =>
  by_cases hlb : lb = 0
  ·have elb := nat_zero hlb
   by_cases hn : n = 0
   ·have en := int_zero hn
    by_cases hlk : lk = 0
    ·have elk := nat_zero hlk;have HD := hJz (decide_eq_true (p := lb = 0 ∧ n = 0 ∧ lk = 0) ⟨hlb, hn, hlk⟩);go_wp2_with fail;go_meet
     case rel => exact ⟨congrArg Value.bool HD.out.symm, rfl⟩
    ·have elk := nat_nz hlk;have HD := hJz (decide_eq_false (p := lb = 0 ∧ n = 0 ∧ lk = 0) (fun h => hlk (h.2.2)));go_wp2_with fail;go_meet
     case rel => exact ⟨congrArg Value.bool HD.out.symm, rfl⟩
   ·have en := int_nz hn;have HD := hJz (decide_eq_false (p := lb = 0 ∧ n = 0 ∧ lk = 0) (fun h => hn (h.2.1)));go_wp2_with fail;go_meet
    case rel => exact ⟨congrArg Value.bool HD.out.symm, rfl⟩
  ·have elb := nat_nz hlb;have HD := hJz (decide_eq_false (p := lb = 0 ∧ n = 0 ∧ lk = 0) (fun h => hlb (h.1)));go_wp2_with fail;go_meet
   case rel => exact ⟨congrArg Value.bool HD.out.symm, rfl⟩
 case rest =>
 obtain ⟨rfl, rfl⟩ := hcut;obtain ⟨sg, hsg⟩ : ∃ sg, decide (lb = 0 ∧ n = 0 ∧ lk = 0) = sg := ⟨_, rfl⟩;rw [hsg];have Hsg := hJz hsg;clear hsg;go_upto_region 2 with fail;go_cut [25] (fun c wx => c = .bool (decide (z = 1 ∧ n = 0 ∧ lk = 0)) ∧ W1 = wx)
 case first =>
  by_cases hz : z = 1
  ·have ez := int_zero hz
   by_cases hn : n = 0
   ·have en := int_zero hn
    by_cases hlk : lk = 0
    ·have elk := nat_zero hlk;have HD := hJz (decide_eq_true (p := z = 1 ∧ n = 0 ∧ lk = 0) ⟨hz, hn, hlk⟩);go_wp2_with fail;go_meet
     case rel => exact ⟨congrArg Value.bool HD.out.symm, rfl⟩
    ·have elk := nat_nz hlk;have HD := hJz (decide_eq_false (p := z = 1 ∧ n = 0 ∧ lk = 0) (fun h => hlk (h.2.2)));go_wp2_with fail;go_meet
     case rel => exact ⟨congrArg Value.bool HD.out.symm, rfl⟩
   ·have en := int_nz hn;have HD := hJz (decide_eq_false (p := z = 1 ∧ n = 0 ∧ lk = 0) (fun h => hn (h.2.1)));go_wp2_with fail;go_meet
    case rel => exact ⟨congrArg Value.bool HD.out.symm, rfl⟩
  ·have ez := int_nz hz;have HD := hJz (decide_eq_false (p := z = 1 ∧ n = 0 ∧ lk = 0) (fun h => hz (h.1)));go_wp2_with fail;go_meet
   case rel => exact ⟨congrArg Value.bool HD.out.symm, rfl⟩
 case rest =>
 obtain ⟨rfl, rfl⟩ := hcut;obtain ⟨c1, hc1⟩ : ∃ c1, decide (z = 1 ∧ n = 0 ∧ lk = 0) = c1 := ⟨_, rfl⟩;rw [hc1];have Hc1 := hJz hc1;clear hc1
 cases c1 with
 | true =>
  have hc := of_decide_eq_true Hc1.out;have HEQ : Hid (entE z bs n ks = if OK = true then some (lineB [y0, y1, y2, y3, y4, y5, y6, y7, y8, y9, y10, y11, y12] NN) else none) := hJz (by rw [HENT.out, if_pos hc]);clear HENT hc
  cases OK with
  | false =>
   have HDC : Hid (Calls Tryz.prog 49 #[.slice B lb kb] W1 fun e w' => e = .returned (.tuple #[.agg #[.int .i64 0, .int .i64 0, .int .i64 0, .int .i64 0, .int .i64 0, .int .i64 0, .int .i64 0, .int .i64 0, .int .i64 0, .int .i64 0, .int .i64 0, .int .i64 0, .int .i64 0, .slice none 0 0], .int .i64 3]) ∧ Below W1.heap.size W1 w') := hJz (HDEC.out.mono fun e w' h => by
    have h1 := h.1;unfold DRes34 at h1;rw [if_neg (by decide)] at h1
    exact ⟨h1, h.2⟩)
   go_wp2_with fail;refine HDC.out.mono ?_;rintro e v1 ⟨rfl, hb1⟩;have hB1 := (HK1.out _ (since_step hb1 (since_alloc (Below.refl _ v1) (.cells #[.int .i64 0, .int .i64 0, .int .i64 0, .int .i64 0, .int .i64 0, .int .i64 0, .int .i64 0, .int .i64 0, .int .i64 0, .int .i64 0, .int .i64 0, .int .i64 0, .int .i64 0, .slice none 0 0] 26)))).2;go_wp2_with fail;go_ret2;exact ⟨by rw [HEQ.out]; rfl, hB1⟩
  | true =>
   have HDC : Hid (Calls Tryz.prog 49 #[.slice B lb kb] W1 fun e w' => (∃ A5 c5, e = .returned (.tuple #[.agg #[.int .i64 y0, .int .i64 y1, .int .i64 y2, .int .i64 y3, .int .i64 y4, .int .i64 y5, .int .i64 y6, .int .i64 y7, .int .i64 y8, .int .i64 y9, .int .i64 y10, .int .i64 y11, .int .i64 y12, .slice A5 NN.length c5], .int .i64 0]) ∧ Sl w' A5 (ints .i64 NN)) ∧ Below W1.heap.size W1 w') := hJz (HDEC.out.mono fun e w' h => by
    have h1 := h.1;unfold DRes34 at h1;rw [if_pos rfl] at h1;obtain ⟨A5, c5, e1, own⟩ := h1
    exact ⟨⟨A5, c5, e1, Sl.of_own own⟩, h.2⟩)
   go_wp2_with fail;refine HDC.out.mono ?_;rintro e v1 ⟨⟨A5, c5, rfl, hs5⟩, hb1⟩;have hal := since_alloc (Below.refl _ v1) (.cells #[.int .i64 y0, .int .i64 y1, .int .i64 y2, .int .i64 y3, .int .i64 y4, .int .i64 y5, .int .i64 y6, .int .i64 y7, .int .i64 y8, .int .i64 y9, .int .i64 y10, .int .i64 y11, .int .i64 y12, .slice A5 NN.length c5] 26);have hyy := heap_alloc_new v1 (.cells #[.int .i64 y0, .int .i64 y1, .int .i64 y2, .int .i64 y3, .int .i64 y4, .int .i64 y5, .int .i64 y6, .int .i64 y7, .int .i64 y8, .int .i64 y9, .int .i64 y10, .int .i64 y11, .int .i64 y12, .slice A5 NN.length c5] 26);obtain ⟨yb, hyb⟩ : ∃ yb, v1.heap.size = yb := ⟨_, rfl⟩;obtain ⟨Y2, hY2⟩ : ∃ Y2, v1.alloc (.cells #[.int .i64 y0, .int .i64 y1, .int .i64 y2, .int .i64 y3, .int .i64 y4, .int .i64 y5, .int .i64 y6, .int .i64 y7, .int .i64 y8, .int .i64 y9, .int .i64 y10, .int .i64 y11, .int .i64 y12, .slice A5 NN.length c5] 26) = Y2 := ⟨_, rfl⟩;rw [hyb] at hyy;rw [hY2] at hal hyy;have hb2 := since_step hb1 hal;have hs6 := hs5.below hal;have hz := HOKZ.out (by first | trivial | rfl)
   have hnl : NN.length ≤ 32 := by
    simp only [okZ, Bool.and_eq_true, decide_eq_true_eq] at hz;exact hz.1.1.1.2.2.2.2
   have hLI := wlineE y0 y1 y2 y3 y4 y5 y6 y7 y8 y9 y10 y11 y12 A5 c5 NN Y2 (by omega) HY6.out HN6.out hs6 (HEV1.out Y2 hb2);rw [if_pos hz] at hLI;have HLI := hJz hLI;have HB2 := hJz hb2;have HY2 := hJz hY2;have HYB := hJz hyb;have x0 : Y2.cell? ⟨yb, 0, none⟩ = some (.int .i64 y0) := (cell_of_row Y2 yb 0 _ _ (0, 0) hyy).trans rfl;have x1 : Y2.cell? ⟨yb, 1, none⟩ = some (.int .i64 y1) := (cell_of_row Y2 yb 1 _ _ (0, 0) hyy).trans rfl;have x2 : Y2.cell? ⟨yb, 2, none⟩ = some (.int .i64 y2) := (cell_of_row Y2 yb 2 _ _ (0, 0) hyy).trans rfl;have x3 : Y2.cell? ⟨yb, 3, none⟩ = some (.int .i64 y3) := (cell_of_row Y2 yb 3 _ _ (0, 0) hyy).trans rfl;have x4 : Y2.cell? ⟨yb, 4, none⟩ = some (.int .i64 y4) := (cell_of_row Y2 yb 4 _ _ (0, 0) hyy).trans rfl;have x5 : Y2.cell? ⟨yb, 5, none⟩ = some (.int .i64 y5) := (cell_of_row Y2 yb 5 _ _ (0, 0) hyy).trans rfl;have x6 : Y2.cell? ⟨yb, 6, none⟩ = some (.int .i64 y6) := (cell_of_row Y2 yb 6 _ _ (0, 0) hyy).trans rfl;have x7 : Y2.cell? ⟨yb, 7, none⟩ = some (.int .i64 y7) := (cell_of_row Y2 yb 7 _ _ (0, 0) hyy).trans rfl;have x8 : Y2.cell? ⟨yb, 8, none⟩ = some (.int .i64 y8) := (cell_of_row Y2 yb 8 _ _ (0, 0) hyy).trans rfl;have x9 : Y2.cell? ⟨yb, 9, none⟩ = some (.int .i64 y9) := (cell_of_row Y2 yb 9 _ _ (0, 0) hyy).trans rfl;have x10 : Y2.cell? ⟨yb, 10, none⟩ = some (.int .i64 y10) := (cell_of_row Y2 yb 10 _ _ (0, 0) hyy).trans rfl;have x11 : Y2.cell? ⟨yb, 11, none⟩ = some (.int .i64 y11) := (cell_of_row Y2 yb 11 _ _ (0, 0) hyy).trans rfl;have x12 : Y2.cell? ⟨yb, 12, none⟩ = some (.int .i64 y12) := (cell_of_row Y2 yb 12 _ _ (0, 0) hyy).trans rfl;have x13 : Y2.cell? ⟨yb, 13, none⟩ = some (.slice A5 NN.length c5) := (cell_of_row Y2 yb 13 _ _ (0, 0) hyy).trans rfl;have xl := (Array.getElem?_eq_some_iff.1 hyy).1;clear hal hyy hyb hY2 hb2 hs6 hz hnl hLI hs5 hb1;go_upto_region 4 with fail;rw [HY2.out, HYB.out];go_wp2_with fail;refine HLI.out.mono ?_;rintro e v3 ⟨rfl, hb3⟩;have hB3 := (HK1.out _ (since_step HB2.out hb3)).2;go_wp2_with fail;go_ret2;exact ⟨by rw [HEQ.out]; rfl, hB3⟩
 | false =>
  have hc1 := of_decide_eq_false Hc1.out;rw [if_neg hc1] at HENT;clear hc1;go_upto_region 7 with fail;go_cut [53] (fun c wx => c = .bool (decide (z = 2 ∧ lb = 0)) ∧ W1 = wx)
  case first =>
   by_cases hz : z = 2
   ·have ez := int_zero hz
    by_cases hlb : lb = 0
    ·have elb := nat_zero hlb;have HD := hJz (decide_eq_true (p := z = 2 ∧ lb = 0) ⟨hz, hlb⟩);go_wp2_with fail;go_meet
     case rel => exact ⟨congrArg Value.bool HD.out.symm, rfl⟩
    ·have elb := nat_nz hlb;have HD := hJz (decide_eq_false (p := z = 2 ∧ lb = 0) (fun h => hlb (h.2)));go_wp2_with fail;go_meet
     case rel => exact ⟨congrArg Value.bool HD.out.symm, rfl⟩
   ·have ez := int_nz hz;have HD := hJz (decide_eq_false (p := z = 2 ∧ lb = 0) (fun h => hz (h.1)));go_wp2_with fail;go_meet
    case rel => exact ⟨congrArg Value.bool HD.out.symm, rfl⟩
  case rest =>
  obtain ⟨rfl, rfl⟩ := hcut;obtain ⟨c2, hc2⟩ : ∃ c2, decide (z = 2 ∧ lb = 0) = c2 := ⟨_, rfl⟩;rw [hc2];have Hc2 := hJz hc2;clear hc2
  cases c2 with
  | true =>
   have hc := of_decide_eq_true Hc2.out;have HEQ : Hid (entE z bs n ks = some (Lib.join (fuseL n ks) [32])) := hJz (by rw [HENT.out, if_pos hc]);clear HENT hc;have hTn := TxS.new W1;have hal := since_alloc (Below.refl _ W1) (.cells #[.slice none 0 0] 70);obtain ⟨g, hg⟩ : ∃ g, W1.heap.size = g := ⟨_, rfl⟩;obtain ⟨Y, hY⟩ : ∃ Y, W1.alloc (.cells #[.slice none 0 0] 70) = Y := ⟨_, rfl⟩;rw [hY, hg] at hTn;rw [hY] at hal;obtain ⟨hxY, hBY⟩ := HK1.out Y hal;have hgb : b ≤ g := by have := HZ0.out; omega
   have hTS : TxS b Y g none 0 [] := ⟨hTn.blk, own_nil _ _ _, hgb⟩;have hYs : b ≤ Y.heap.size := Nat.le_of_lt (Array.getElem?_eq_some_iff.1 hxY).1;have HT0 := hJz (show Tt b g none none 0 [] Y Y from Tt.refl hTS);have HKY : Hid (∀ V, Chg g none Y V → V.heap[b]? = some (.cells #[.int .i64 z, .slice B lb kb, .int .i64 n, .slice K lk kk] 57 (0, 0)) ∧ Below b w V) := hJz fun V hC => ⟨hTS.keep hC hxY (fun cs t f e => by injection e with _ e2 _; subst e2; decide), hBY.trans (hTS.old hYs hC)⟩;have HG := hJz hg;have HYE := hJz hY
   have HEVT0 : Hid (∀ V, Chg g none Y V → EvB V.heap.size V ∧ b ≤ V.heap.size) := hJz fun V hC => by
    obtain ⟨hx, hB⟩ := HKY.out V hC;have := (Array.getElem?_eq_some_iff.1 hx).1;exact ⟨(HEVB.out V hB).up (by omega), by omega⟩
   have HCE : Hid (∀ V, Chg g none Y V → V.cell? ⟨b, 0, none⟩ = some (.int .i64 z) ∧ V.cell? ⟨b, 1, none⟩ = some (.slice B lb kb) ∧ V.cell? ⟨b, 2, none⟩ = some (.int .i64 n) ∧ V.cell? ⟨b, 3, none⟩ = some (.slice K lk kk) ∧ b < V.heap.size) := hJz fun V hC => by
    have h := (HKY.out V hC).1;exact ⟨(cell_of_row V _ 0 _ _ (0, 0) h).trans rfl, (cell_of_row V _ 1 _ _ (0, 0) h).trans rfl, (cell_of_row V _ 2 _ _ (0, 0) h).trans rfl, (cell_of_row V _ 3 _ _ (0, 0) h).trans rfl, (Array.getElem?_eq_some_iff.1 h).1⟩
   clear hTn hal hg hY hxY hBY hgb hTS hYs k0 k1 k2 k3 kl;have HEv0 := hJz (HEVT0.out Y HT0.out.chg).1.here;obtain ⟨k0, k1, k2, k3, kl⟩ := HCE.out Y HT0.out.chg;go_upto_region 9 with fail;rw [HYE.out, HG.out];go_wp2_with fail;refine (HSMN.out _ HEv0.out).mono ?_;rintro e v1 ⟨rfl, hb1⟩;have hT0 := HT0.out.below hb1;have hal := since_alloc (Below.refl _ v1) (.cells #[.string (⟨#[102, 117, 115, 101]⟩ : ByteArray), .string (S8 (Lib.itoa n))] 9);have hT1 := hT0.below hal;have HAD := hJz (tadd b g none 0 [] (some ⟨v1.heap.size, 0, none⟩) 2 [fuseW, Lib.itoa n] (v1.alloc (.cells #[.string (⟨#[102, 117, 115, 101]⟩ : ByteArray), .string (S8 (Lib.itoa n))] 9)) hT1.s (HEVT0.out _ hT1.chg).2 (by simp) (Sl.new_ _ (strs [fuseW, Lib.itoa n]) _));have HT1 := hJz hT1;clear hb1 hT0 hal hT1 k0 k1 k2 k3 kl HSMN;go_wp2_with fail;refine HAD.out.mono ?_;rintro e v3 ⟨rfl, A5, c5, hT⟩;have hT7 := HT1.out.trans hT;rw [List.nil_append] at hT7;obtain ⟨k0, k1, k2, k3, kl⟩ := HCE.out v3 hT7.chg;have HT7 := hJz hT7;clear HAD HT1 hT hT7;go_wp2_with fail;go_loopw [74] (fun iv wr => ∃ (j : Nat) (A4 : Option Addr) (c4 : Nat), j ≤ lk ∧ iv = .int .i64 (j : Int) ∧ Tt b g none A4 c4 ([fuseW, Lib.itoa n] ++ (ks.take j).map Lib.itoa) Y wr) (fun iv _ => lk - (intOf iv).toNat)
   case atStart => exact ⟨0, A5, c5, by omega, rfl, by simpa using HT7.out⟩
   case round =>
    clear HT7;obtain ⟨j, A4, c4, hj1, rfl, hW4⟩ := hrel
    by_cases hj : j < lk
    ·have hjl : (j : Int) < (lk : Int) := by omega
     have hj0 : (0 : Int) ≤ (j : Int) := by omega
     have hj9 : lk ≤ 1000 := HKL.out;obtain ⟨hxb, hB⟩ := HKY.out wr hW4.chg;have hjk : j < ks.length := by have := HLK.out; omega
     obtain ⟨b2, o2, hA2, c0⟩ := (HSL.out wr hB).2.int hjk;obtain ⟨x, hx⟩ : ∃ x, ks[j] = x := ⟨_, rfl⟩;have hTJ : ([fuseW, Lib.itoa n] ++ (ks.take (j + 1)).map Lib.itoa) = ([fuseW, Lib.itoa n] ++ (ks.take j).map Lib.itoa) ++ [Lib.itoa x] := by rw [take_snoc ks j hjk, List.map_append, ← List.append_assoc, hx]; rfl
     have HNM := hJz (HSM.out x (by rw [← hx]; exact List.getElem_mem hjk));rw [hx] at c0;have HTJ := hJz hTJ
     have hlen4 : ([fuseW, Lib.itoa n] ++ (ks.take j).map Lib.itoa).length ≤ 2000 := by
      have := HKL.out;rw [List.length_append, List.length_map, List.length_take];simp only [List.length_cons, List.length_nil];omega
     obtain ⟨B4, hB4⟩ : ∃ B4, [fuseW, Lib.itoa n] ++ (ks.take j).map Lib.itoa = B4 := ⟨_, rfl⟩;rw [hB4] at hW4 hlen4 HTJ;have HL4 := hJz hlen4;have HW4 := hJz hW4;have HEv := hJz (HEVT0.out wr hW4.chg).1.here;subst hA2;clear hx hTJ hB hB4 hlen4 hW4 hxb hjk;go_wp2_with fail;refine (HNM.out _ HEv.out).mono ?_;rintro e y1 ⟨rfl, hb1⟩;have hT5 := HW4.out.below hb1;have hal := since_alloc (Below.refl _ y1) (.cells #[.string (S8 (Lib.itoa x))] 9);have hT6 := hT5.below hal;have HAD := hJz (tadd b g A4 c4 B4 (some ⟨y1.heap.size, 0, none⟩) 1 [Lib.itoa x] (y1.alloc (.cells #[.string (S8 (Lib.itoa x))] 9)) hT6.s (HEVT0.out _ hT6.chg).2 (by have := HL4.out; simp; omega) (Sl.new_ _ (strs [Lib.itoa x]) _));have HT6 := hJz hT6;clear hb1 hT5 hal hT6;go_wp2_with fail;refine HAD.out.mono ?_;rintro e y3 ⟨rfl, A5, c5, hT⟩;have hWN := HT6.out.trans hT;rw [← HTJ.out] at hWN;clear hT HAD;go_wp2_with fail;go_roundw
     case rel => exact ⟨j + 1, _, _, by omega, by go_num, hWN⟩
     case measure => simp [intOf]; omega
    ·obtain rfl : j = lk := by omega
     have hlk := HLK.out;subst hlk;rw [List.take_length] at hW4;have hL := HLW.out;have hRW : [fuseW, Lib.itoa n] ++ ks.map Lib.itoa = fuseL n ks := rfl;rw [hRW] at hW4;have hkl := HKL.out;have hjl := join_le (fuseL n ks) [32] hL.2
     have hJl : (Lib.join (fuseL n ks) [32]).length ≤ 10000000 := by
      have h2 := hL.1;have : (44 + ([32] : List UInt8).length) * (fuseL n ks).length ≤ 45 * 1002 := Nat.mul_le_mul (by simp) (by omega);omega
     have HD := hJz (wline b g A4 c4 (fuseL n ks) wr hW4.s (by have := hL.1; omega) (by simp [fuseL]) (by omega));have HB9 := hJz (HKY.out wr hW4.chg).2;have HG9 := hJz (HEVT0.out wr hW4.chg).2;obtain ⟨J, hJ⟩ : ∃ J, Lib.join (fuseL n ks) [32] = J := ⟨_, rfl⟩;rw [hJ] at HD HEQ;clear hW4 hL hjl hJl hJ hRW hkl;go_wp2_with fail;refine HD.out.mono ?_;rintro e v9 ⟨rfl, hb9⟩;have hB9 := HB9.out.trans (hb9.mono HG9.out);clear HD;go_wp2_with fail;go_ret2;exact ⟨by rw [HEQ.out]; rfl, hB9⟩
  | false =>
   have hc2 := of_decide_eq_false Hc2.out;rw [if_neg hc2] at HENT;clear hc2;have HBE := hJz (HK1.out _ (Below.refl _ W1)).2;have hsgT : sg = true → lb = 0 ∧ n = 0 ∧ lk = 0 := fun h => by subst h; exact of_decide_eq_true Hsg.out
   have hsgF : sg = false → ¬ (lb = 0 ∧ n = 0 ∧ lk = 0) := fun h => by subst h; exact of_decide_eq_false Hsg.out
   by_cases hz3 : z = 3
   ·have e3 := int_zero hz3
    cases sg with
    | true =>
     have hs := hsgT rfl;have HEQ : Hid (entE z bs n ks = some powerW) := hJz (by rw [HENT.out, if_pos ⟨hz3, hs⟩]);clear hsgT hsgF hs hz3 Hsg HENT;go_wp2_with fail;go_ret2;exact ⟨by rw [HEQ.out]; rfl, HBE.out⟩
    | false =>
     have hs := hsgF rfl;have HEQ : Hid (entE z bs n ks = none) := hJz (by rw [HENT.out, if_neg (fun h => hs h.2), if_neg (fun h => hs h.2)]);have e4 := int_nz (a := z) (c := 4) (by omega);clear hsgT hsgF hs hz3 Hsg HENT;go_wp2_with fail;go_ret2;exact ⟨by rw [HEQ.out]; rfl, HBE.out⟩
   ·have e3 := int_nz hz3
    by_cases hz4 : z = 4
    ·have e4 := int_zero hz4
     cases sg with
     | true =>
      have hs := hsgT rfl;have HEQ : Hid (entE z bs n ks = some compactW) := hJz (by rw [HENT.out, if_neg (fun h => hz3 h.1), if_pos ⟨hz4, hs⟩]);clear hsgT hsgF hs hz3 hz4 Hsg HENT;go_wp2_with fail;go_ret2;exact ⟨by rw [HEQ.out]; rfl, HBE.out⟩
     | false =>
      have hs := hsgF rfl;have HEQ : Hid (entE z bs n ks = none) := hJz (by rw [HENT.out, if_neg (fun h => hs h.2), if_neg (fun h => hs h.2)]);clear hsgT hsgF hs hz3 hz4 Hsg HENT;go_wp2_with fail;go_ret2;exact ⟨by rw [HEQ.out]; rfl, HBE.out⟩
    ·have e4 := int_nz hz4;have HEQ : Hid (entE z bs n ks = none) := hJz (by rw [HENT.out, if_neg (fun h => hz3 h.1), if_neg (fun h => hz4 h.1)]);clear hsgT hsgF hz3 hz4 Hsg HENT;go_wp2_with fail;go_ret2;exact ⟨by rw [HEQ.out]; rfl, HBE.out⟩
end
end Go.Proofs.YtpmnjojednbnpaaGreatDoor
