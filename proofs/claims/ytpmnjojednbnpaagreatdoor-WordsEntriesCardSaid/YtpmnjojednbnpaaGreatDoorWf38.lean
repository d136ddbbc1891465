import Derived.Test.YtpmnjojednbnpaaGreatDoorWf26
import Derived.Test.YtpmnjojednbnpaaGreatDoorWf37
set_option maxHeartbeats 16000000
set_option maxRecDepth 100000
set_option linter.unusedVariables false
set_option linter.unusedSimpArgs false
namespace Go.Proofs.YtpmnjojednbnpaaGreatDoor
open Go.ChangeShapes Go.WideShapes Go.ChangeAt Go.RowKit
section
theorem Rq.keepQ {w w' : World} {g : Nat} {A : Option Addr} {c : Nat} {B : List Nat} {er : Int} (h : Rq w g A c B er) (hC : Chg g none w w') {k : Nat} {o : Obj} (hk : w.heap[k]? = some o) (hne : ∀ cs t f, o = .cells cs t f → t ≠ 148) : w'.heap[k]? = some o := by
 rw [hC.block k (Array.getElem?_eq_some_iff.1 hk).1 ?_ (fun e => by cases e)]
 ·exact hk
 ·intro e;subst e;rw [h.blk] at hk;injection hk with hk;exact hne _ _ _ hk.symm rfl
theorem fldL_last (op : Int) : ∀ k, k < (fldL op).length → (fldL op).getD k 0 = 78 → k + 1 = (fldL op).length := by
 have h := fldL_cases op;have key : ∀ l : List Nat, (∀ k, k < 6 → k < l.length → l.getD k 0 = 78 → k + 1 = l.length) → l.length ≤ 5 → ∀ k, k < l.length → l.getD k 0 = 78 → k + 1 = l.length := fun l h1 h2 k hk => h1 k (by omega) hk
 rcases h with h | h | h | h | h | h | h | h | h | h | h | h | h | h | h <;> rw [h] <;> exact key _ (by decide) (by decide)
theorem fldL_mem11 (op : Int) : ∀ x ∈ fldL op, x = 77 ∨ x = 85 ∨ x = 79 ∨ x = 73 ∨ x = 65 ∨ x = 84 ∨ x = 68 ∨ x = 81 ∨ x = 80 ∨ x = 78 := by
 have h := fldL_cases op
 rcases h with h | h | h | h | h | h | h | h | h | h | h | h | h | h | h <;> rw [h] <;> decide
def okE (d : Dc) : Bool := decide (endF d.s = 0) && isZ d.z d.nums.length
theorem rdecode34 (A : Option Addr) (cap : Nat) (l : List Nat) (w : World) (hl : l.length ≤ 10000) (hlc : l.length ≤ cap) (hcm : cap ≤ maxLen) (ho : Oct l) (hs : Sl w A (by8 l)) :
  Calls Tryz.prog 50 #[.slice A l.length cap] w fun e w' => DRes34 w.heap.size w' e (okE (decC l)) (decC l).z (decC l).nums ∧ Below w.heap.size w w' := by
 obtain ⟨D, hDD⟩ : ∃ D, decC l = D := ⟨_, rfl⟩;rw [hDD];obtain ⟨op, s1, e1⟩ : ∃ op s1, rdM ⟨l, 0⟩ = (op, s1) := ⟨_, _, rfl⟩;obtain ⟨by_, s2, e2⟩ : ∃ a s2, rdM ⟨s1.B, s1.err⟩ = (a, s2) := ⟨_, _, rfl⟩
 have HDC : Hid (D = rdF (fldL op) ⟨[op, by_, 0, 0, 0, 0, 0, 0, 0, 0, 0, 0, 0], [], s2⟩) := hJz (by
  have e2' : rdM s1 = (by_, s2) := e2;rw [← hDD];unfold decC;rw [e1];simp only
  rw [e2'])
 have HE1 := hJz e1;have HE2 := hJz e2;obtain ⟨q0, hq0⟩ : ∃ q0, w.heap.size = q0 := ⟨_, rfl⟩;have HQ0 := hJz hq0;have hb0 := since_alloc (Below.refl _ w) (.cells #[.int .i64 0, .int .i64 0, .int .i64 0, .int .i64 0, .int .i64 0, .int .i64 0, .int .i64 0, .int .i64 0, .int .i64 0, .int .i64 0, .int .i64 0, .int .i64 0, .int .i64 0, .slice none 0 0] 26);have hb1 := since_step hb0 (since_alloc (Below.refl _ (w.alloc (.cells #[.int .i64 0, .int .i64 0, .int .i64 0, .int .i64 0, .int .i64 0, .int .i64 0, .int .i64 0, .int .i64 0, .int .i64 0, .int .i64 0, .int .i64 0, .int .i64 0, .int .i64 0, .slice none 0 0] 26))) (.cells #[.slice A l.length cap, .int .i64 0] 148))
 have hrq : Rq ((w.alloc (.cells #[.int .i64 0, .int .i64 0, .int .i64 0, .int .i64 0, .int .i64 0, .int .i64 0, .int .i64 0, .int .i64 0, .int .i64 0, .int .i64 0, .int .i64 0, .int .i64 0, .int .i64 0, .slice none 0 0] 26)).alloc (.cells #[.slice A l.length cap, .int .i64 0] 148)) (q0 + 1) A cap l 0 := by
  refine ⟨?_, hs.below hb1, hlc, hcm, fun hne b o e => ?_, ho⟩
  ·have h := heap_alloc_new (w.alloc (.cells #[.int .i64 0, .int .i64 0, .int .i64 0, .int .i64 0, .int .i64 0, .int .i64 0, .int .i64 0, .int .i64 0, .int .i64 0, .int .i64 0, .int .i64 0, .int .i64 0, .int .i64 0, .slice none 0 0] 26)) (.cells #[.slice A l.length cap, .int .i64 0] 148);rw [World.size_alloc, hq0] at h;exact h
  ·obtain ⟨b1, o1, e1, h1⟩ := hs.byte (j := 0) (List.length_pos_iff.2 hne);rw [e] at e1;injection e1 with e1;injection e1 with e1 _;subst e1;have h3 : b < w.heap.size := World.block_lt_of_cell? _ _ h1;omega
 have hx0 : ((w.alloc (.cells #[.int .i64 0, .int .i64 0, .int .i64 0, .int .i64 0, .int .i64 0, .int .i64 0, .int .i64 0, .int .i64 0, .int .i64 0, .int .i64 0, .int .i64 0, .int .i64 0, .int .i64 0, .slice none 0 0] 26)).alloc (.cells #[.slice A l.length cap, .int .i64 0] 148)).heap[q0]? = some (.cells #[.int .i64 0, .int .i64 0, .int .i64 0, .int .i64 0, .int .i64 0, .int .i64 0, .int .i64 0, .int .i64 0, .int .i64 0, .int .i64 0, .int .i64 0, .int .i64 0, .int .i64 0, .slice none 0 0] 26 (0, 0)) := by
  rw [(since_alloc (Below.refl _ (w.alloc (.cells #[.int .i64 0, .int .i64 0, .int .i64 0, .int .i64 0, .int .i64 0, .int .i64 0, .int .i64 0, .int .i64 0, .int .i64 0, .int .i64 0, .int .i64 0, .int .i64 0, .int .i64 0, .slice none 0 0] 26))) (.cells #[.slice A l.length cap, .int .i64 0] 148)).block q0 (by rw [World.size_alloc]; omega), ← hq0];exact heap_alloc_new w _
 rw [hq0] at hb1 ⊢;have HG1 := hJz (rget34 (q0 + 1) A cap l 0 _ hrq e1);have HB1 := hJz hb1;have HX0 := hJz hx0;have HRQ := hJz hrq;clear hDD e1 e2 hq0 hb0 hb1 hrq hx0 hs;go_enter Tryz.func50, Tryz.ntmps50;go_upto_region 2 with fail;rw [HQ0.out];generalize hgen : (w.alloc (.cells #[.int .i64 0, .int .i64 0, .int .i64 0, .int .i64 0, .int .i64 0, .int .i64 0, .int .i64 0, .int .i64 0, .int .i64 0, .int .i64 0, .int .i64 0, .int .i64 0, .int .i64 0, .slice none 0 0] 26)).alloc (.cells #[.slice A l.length cap, .int .i64 0] 148) = W1 at *;clear hgen;obtain ⟨g, hg⟩ : ∃ g, q0 + 1 = g := ⟨_, rfl⟩;rw [hg] at HG1 HRQ ⊢;have hqg : q0 < g := by omega
 clear hg;go_wp2_with (first | (refine HG1.out.mono ?_; rintro e v1 ⟨rfl, hc1, A1, c1, hr1⟩; have HC1 := hJz hc1; have HR1 := hJz hr1; clear hc1 hr1; have hal := hJz (since_alloc (Below.refl _ v1) (.cells #[.int .i64 op, .int .i64 0, .int .i64 0, .int .i64 0, .int .i64 0, .int .i64 0, .int .i64 0, .int .i64 0, .int .i64 0, .int .i64 0, .int .i64 0, .int .i64 0, .int .i64 0, .slice none 0 0] 26)); have HG2 := hJz (rget34 g A1 c1 s1.B s1.err _ (HR1.out.below hal.out) HE2.out)) | fail);obtain ⟨b, hb⟩ : ∃ b, v1.heap.size = b := ⟨_, rfl⟩
 have hcb1 : CB (v1.alloc (.cells #[.int .i64 op, .int .i64 0, .int .i64 0, .int .i64 0, .int .i64 0, .int .i64 0, .int .i64 0, .int .i64 0, .int .i64 0, .int .i64 0, .int .i64 0, .int .i64 0, .int .i64 0, .slice none 0 0] 26)) b [op, 0, 0, 0, 0, 0, 0, 0, 0, 0, 0, 0, 0] (.slice none 0 0) := by
  rw [← hb];exact ⟨heap_alloc_new v1 _, rfl⟩
 have hgb : g < b := by rw [← hb]; exact HR1.out.lt
 have hxv1 := HRQ.out.keepQ HC1.out HX0.out (fun cs t f e => by injection e with _ e2 _; subst e2; decide);have hBv1 : Below q0 w v1 := HB1.out.trans (HC1.out.below (by have := HRQ.out.lt; omega) (by omega) (fun b e => by cases e));have hxa := (hal.out.block q0 (Array.getElem?_eq_some_iff.1 hxv1).1).trans hxv1;have hBa := hBv1.trans (hal.out.mono (by omega));have hra := HR1.out.below hal.out;have HHB := hJz hb;have HCB1 := hJz hcb1;have HRA := hJz hra;have HXA := hJz hxa;have HBA := hJz hBa;clear hcb1 hra hxa hBa hxv1 hBv1 hb HX0 HB1 HC1 HR1 HRQ HG1;rw [HHB.out];generalize hgen : v1.alloc (.cells #[.int .i64 op, .int .i64 0, .int .i64 0, .int .i64 0, .int .i64 0, .int .i64 0, .int .i64 0, .int .i64 0, .int .i64 0, .int .i64 0, .int .i64 0, .int .i64 0, .int .i64 0, .slice none 0 0] 26) = W2 at *;clear hgen hal;refine HG2.out.mono ?_;rintro e v2 ⟨rfl, hc2, A2, c2, hr2⟩;have hcb2 := CB.mk (HRA.out.keepQ hc2 HCB1.out.blk (fun cs t f e => by injection e with _ e2 _; subst e2; decide)) HCB1.out.len;have hx2 := HRA.out.keepQ hc2 HXA.out (fun cs t f e => by injection e with _ e2 _; subst e2; decide);have hB2 : Below q0 w v2 := HBA.out.trans (hc2.below (by have := HCB1.out.lt; omega) (by omega) (fun b e => by cases e));have hbl2 := hcb2.lt;obtain ⟨k1, f1⟩ := hcb2.got (o := 1) (by decide);have hcb3 : CB (v2.setCell ⟨b, 1, none⟩ (.int .i64 by_)) b [op, by_, 0, 0, 0, 0, 0, 0, 0, 0, 0, 0, 0] (.slice none 0 0) := hcb2.put (o := 1) (by decide) by_;have hr3 := hr2.belowW (Below.setB (Below.refl b v2) (q := ⟨b, 1, none⟩) (Nat.le_refl _) (.int .i64 by_)) hgb;have hx3 : (v2.setCell ⟨b, 1, none⟩ (.int .i64 by_)).heap[q0]? = some (.cells #[.int .i64 0, .int .i64 0, .int .i64 0, .int .i64 0, .int .i64 0, .int .i64 0, .int .i64 0, .int .i64 0, .int .i64 0, .int .i64 0, .int .i64 0, .int .i64 0, .int .i64 0, .slice none 0 0] 26 (0, 0)) := by rw [Below.heap_setCell _ _ _ _ (by show q0 ≠ b; omega)]; exact hx2
 have hB3 := Below.setB hB2 (q := ⟨b, 1, none⟩) (by show q0 ≤ b; omega) (.int .i64 by_);have HF := hJz (fun V => rfld_any op V);have HMEM := hJz (fldL_mem11 op);have HLAST := hJz (fldL_last op)
 have HAT : Hid (∀ k, (h : k < (bs8 (fldL op)).size) → ∃ h2 : k < (fldL op).length, ((bs8 (fldL op))[k]'h).toNat = (fldL op)[k]) := hJz fun k h => by
  have h2 : k < (fldL op).length := by rw [bs8_size] at h; exact h
  exact ⟨h2, bs8_at h2 (by have := fldL_low op _ (List.getElem_mem h2); omega)⟩
 have hL5 : (fldL op).length ≤ 5 := by
  have h := fldL_cases op
  rcases h with h | h | h | h | h | h | h | h | h | h | h | h | h | h | h <;> rw [h] <;> decide
 obtain ⟨c0, f0⟩ := hcb3.got (o := 0) (by decide);simp only [List.getD_cons_zero] at c0;have HCB3 := hJz hcb3;have HR3 := hJz hr3;have HX3 := hJz hx3;have HB3 := hJz hB3;clear hcb2 hx2 hB2 hc2 hr2 hcb3 hr3 hx3 hB3 HRA HXA HBA HCB1 HG2 HE1 HE2;go_upto_region 4 with fail;clear k1 f1 hbl2;generalize v2.setCell ⟨b, 1, none⟩ (.int .i64 by_) = W3 at *;have hbl3 := HCB3.out.lt;go_wp2_with fail;refine (HF.out _).mono ?_;rintro e v4 ⟨rfl, hb4⟩;obtain ⟨L, hL⟩ : ∃ L, fldL op = L := ⟨_, rfl⟩;rw [hL] at HMEM HLAST HAT HDC hL5 ⊢;have hsz := bs8_size L;obtain ⟨s, hs⟩ : ∃ s, bs8 L = s := ⟨_, rfl⟩;rw [hs] at HAT hsz ⊢;have HSZ := hJz hsz;have hs5 : s.size ≤ 5 := by omega
 have hcb4 := HCB3.out.below hb4;have hr4 := HR3.out.below hb4;have hx4 := (hb4.block q0 (Array.getElem?_eq_some_iff.1 HX3.out).1).trans HX3.out;have hB4 := HB3.out.trans (hb4.mono (by omega));have hsz4 : b < v4.heap.size := hcb4.lt;obtain ⟨W1, hW1⟩ : ∃ W1, v4.heap.size = W1 := ⟨_, rfl⟩
 have HK4 : Hid (∀ V, Chg g (some b) v4 V → V.heap[q0]? = some (.cells #[.int .i64 0, .int .i64 0, .int .i64 0, .int .i64 0, .int .i64 0, .int .i64 0, .int .i64 0, .int .i64 0, .int .i64 0, .int .i64 0, .int .i64 0, .int .i64 0, .int .i64 0, .slice none 0 0] 26 (0, 0)) ∧ Below q0 w V) := hJz fun V hC =>
  ⟨hC.kp hx4 (by omega) (by omega), hB4.trans (hC.below (by omega) (by omega) (fun b2 e => by injection e with e; omega))⟩
 have HW1g : Hid (b < W1) := hJz (by omega);have HWE := hJz hW1;have HCB4 := hJz hcb4;have HR4 := hJz hr4;clear hb4 HF hL hs hsz c0 f0 hcb4 hr4 hx4 hB4 hsz4 hW1 HCB3 HR3 HX3 HB3 hbl3;go_wp2_with fail;go_loopw [7] (fun iv wr => ∃ (k : Nat) (d : Dc) (AN : Option Addr) (cN : Nat) (AR : Option Addr) (cR : Nat), k ≤ s.size ∧ iv = .int .i64 (k : Int) ∧ rdF (L.drop k) d = D ∧ (k < s.size → d.nums = []) ∧ CB wr b d.z (.slice AN d.nums.length cN) ∧ Rq wr g AR cR d.s.B d.s.err ∧ wr.ownsRow W1 2 1 (.slice AN (d.nums).length cN) (d.nums).length (ints .i64 (d.nums)) ∧ d.nums.length ≤ 1000 ∧ Chg g (some b) v4 wr) (fun iv _ => s.size - (intOf iv).toNat)
 case atStart => exact ⟨0, ⟨[op, by_, 0, 0, 0, 0, 0, 0, 0, 0, 0, 0, 0], [], s2⟩, none, 0, A2, c2, by omega, rfl, HDC.out.symm, fun _ => rfl, HCB4.out, HR4.out, own_nil _ _ _, by simp, Chg.refl _ _ _⟩
 case round =>
  clear HCB4 HR4 A2 c2;obtain ⟨k, d, AN, cN, AR, cR, hk, rfl, hD, hNZ, hcb, hr, hown, hN1, hC⟩ := hrel
  by_cases hkl : k < s.size
  ·have hk1 : (k : Int) < (s.size : Int) := by omega
   have hk0 : (0 : Int) ≤ (k : Int) := by omega
   obtain ⟨h2, hat⟩ := HAT.out k hkl;obtain ⟨f, hf⟩ : ∃ f, L[k] = f := ⟨_, rfl⟩;rw [rdF_step h2, hf] at hD;have hmem := HMEM.out _ (List.getElem_mem h2);have hNZ0 := hNZ hkl;have HNZ : Hid (k + 1 < s.size → d.nums = []) := hJz fun _ => hNZ0;have HNZ0 := hJz hNZ0;have HD := hJz hD
   have HLK : Hid (f = 78 → k + 1 = s.size) := hJz fun h => by
    have h3 : L.getD k 0 = L[k] := by rw [List.getD_eq_getElem?_getD, List.getElem?_eq_getElem h2]; rfl
    have h4 := HLAST.out k h2 (by rw [h3, hf, h]);have := HSZ.out;omega
   rw [hf] at hat hmem;clear hf hD hNZ hNZ0 h2
   rcases hmem with rfl | rfl | rfl | rfl | rfl | rfl | rfl | rfl | rfl | rfl
   ·have hv : ((s[k].toNat : Nat) : Int) = 77 := by rw [hat]; rfl
    clear hat
    obtain ⟨x0, t0, hx0⟩ : ∃ x t, rdM ⟨d.s.B, d.s.err⟩ = (x, t) := ⟨_, _, rfl⟩;have HG0 := hJz (rget34 g AR cR d.s.B d.s.err wr hr hx0);have hl0 := hcb.lt;obtain ⟨cz0, fz0⟩ := hcb.got (o := 2) (by decide);have HCB0 := hJz hcb;have HRQ0 := hJz hr;have HOW0 := hJz hown;have HCH0 := hJz hC;have HXE0 := hJz hx0;clear hcb hr hown hC hx0;go_wp2_with (first | (refine HG0.out.mono ?_; rintro e v0 ⟨rfl, hcg0, A0, c0, hrq0⟩; have hcbk0 := CB.mk (HRQ0.out.keepQ hcg0 HCB0.out.blk (fun cs t f e => by injection e with _ e2 _; subst e2; decide)) HCB0.out.len; have hlk0 := hcbk0.lt; obtain ⟨ck0, fk0⟩ := hcbk0.got (o := 2) (by decide); have HCK0 := hJz hcbk0; have HCG0 := hJz hcg0; have HRR0 := hJz hrq0; clear hcbk0 hcg0 hrq0; skip) | fail);have hcb0n := HCK0.out.put (o := 2) (by decide) x0;have hr0n := HRR0.out.belowW (Below.setB (Below.refl b v0) (q := ⟨b, 2, none⟩) (Nat.le_refl _) (.int .i64 x0)) hgb;have how0n := own_chg (own_chg HOW0.out HCG0.out (fun e => by have := (HOW0.out.lt _ e).1; have := HW1g.out; omega) (fun b _ e => by cases e)) (Chg.set (g := b) (row := none) 2 (.int .i64 x0)) (fun e => by have := (HOW0.out.lt _ e).1; have := HW1g.out; omega) (fun b _ e => by cases e);have hC0n := HCH0.out.trans (HCG0.out.toR.trans (Chg.toB (Chg.set (g := b) (row := none) 2 (.int .i64 x0))) (.inl rfl)) (.inl rfl);go_roundw
    case rel =>
     have hF : rdF1 77 d = ⟨(d.z).set 2 x0, d.nums, t0⟩ := by
      have e0 : rdM d.s = (x0, t0) := HXE0.out;unfold rdF1;rw [if_neg (by decide)]
      show (⟨(rdS [(2, 8)] d.z d.s).1, d.nums, (rdS [(2, 8)] d.z d.s).2⟩ : Dc) = _
      simp only [rdS, e0]
     have hD := HD.out;rw [hF] at hD;exact ⟨k + 1, ⟨(d.z).set 2 x0, d.nums, t0⟩, AN, cN, A0, c0, by omega, by go_num, hD, HNZ.out, hcb0n, hr0n, how0n, hN1, hC0n⟩
    case measure => simp [intOf]; omega
   ·have hv : ((s[k].toNat : Nat) : Int) = 85 := by rw [hat]; rfl
    clear hat
    obtain ⟨x0, t0, hx0⟩ : ∃ x t, rdM ⟨d.s.B, d.s.err⟩ = (x, t) := ⟨_, _, rfl⟩;have HG0 := hJz (rget34 g AR cR d.s.B d.s.err wr hr hx0);have hl0 := hcb.lt;obtain ⟨cz0, fz0⟩ := hcb.got (o := 3) (by decide);have HCB0 := hJz hcb;have HRQ0 := hJz hr;have HOW0 := hJz hown;have HCH0 := hJz hC;have HXE0 := hJz hx0;clear hcb hr hown hC hx0;go_wp2_with (first | (refine HG0.out.mono ?_; rintro e v0 ⟨rfl, hcg0, A0, c0, hrq0⟩; have hcbk0 := CB.mk (HRQ0.out.keepQ hcg0 HCB0.out.blk (fun cs t f e => by injection e with _ e2 _; subst e2; decide)) HCB0.out.len; have hlk0 := hcbk0.lt; obtain ⟨ck0, fk0⟩ := hcbk0.got (o := 3) (by decide); have HCK0 := hJz hcbk0; have HCG0 := hJz hcg0; have HRR0 := hJz hrq0; clear hcbk0 hcg0 hrq0; skip) | fail);have hcb0n := HCK0.out.put (o := 3) (by decide) x0;have hr0n := HRR0.out.belowW (Below.setB (Below.refl b v0) (q := ⟨b, 3, none⟩) (Nat.le_refl _) (.int .i64 x0)) hgb;have how0n := own_chg (own_chg HOW0.out HCG0.out (fun e => by have := (HOW0.out.lt _ e).1; have := HW1g.out; omega) (fun b _ e => by cases e)) (Chg.set (g := b) (row := none) 3 (.int .i64 x0)) (fun e => by have := (HOW0.out.lt _ e).1; have := HW1g.out; omega) (fun b _ e => by cases e);have hC0n := HCH0.out.trans (HCG0.out.toR.trans (Chg.toB (Chg.set (g := b) (row := none) 3 (.int .i64 x0))) (.inl rfl)) (.inl rfl);generalize hgen0 : v0.setCell ⟨b, 3, none⟩ (.int .i64 x0) = u0x at *;clear hgen0 hlk0 ck0 fk0 HG0;obtain ⟨x1, t1, hx1⟩ : ∃ x t, rdM ⟨t0.B, t0.err⟩ = (x, t) := ⟨_, _, rfl⟩;have HG1 := hJz (rget34 g A0 c0 t0.B t0.err u0x hr0n hx1);have HCB1 := hJz hcb0n;have HRQ1 := hJz hr0n;have HOW1 := hJz how0n;have HCH1 := hJz hC0n;have HXE1 := hJz hx1;clear hcb0n hr0n how0n hC0n hx1;go_wp2_with (first | (refine HG1.out.mono ?_; rintro e v1 ⟨rfl, hcg1, A1, c1, hrq1⟩; have hcbk1 := CB.mk (HRQ1.out.keepQ hcg1 HCB1.out.blk (fun cs t f e => by injection e with _ e2 _; subst e2; decide)) HCB1.out.len; have hlk1 := hcbk1.lt; obtain ⟨ck1, fk1⟩ := hcbk1.got (o := 4) (by decide); have HCK1 := hJz hcbk1; have HCG1 := hJz hcg1; have HRR1 := hJz hrq1; clear hcbk1 hcg1 hrq1; skip) | fail);have hcb1n := HCK1.out.put (o := 4) (by decide) x1;have hr1n := HRR1.out.belowW (Below.setB (Below.refl b v1) (q := ⟨b, 4, none⟩) (Nat.le_refl _) (.int .i64 x1)) hgb;have how1n := own_chg (own_chg HOW1.out HCG1.out (fun e => by have := (HOW1.out.lt _ e).1; have := HW1g.out; omega) (fun b _ e => by cases e)) (Chg.set (g := b) (row := none) 4 (.int .i64 x1)) (fun e => by have := (HOW1.out.lt _ e).1; have := HW1g.out; omega) (fun b _ e => by cases e);have hC1n := HCH1.out.trans (HCG1.out.toR.trans (Chg.toB (Chg.set (g := b) (row := none) 4 (.int .i64 x1))) (.inl rfl)) (.inl rfl);go_roundw
    case rel =>
     have hF : rdF1 85 d = ⟨((d.z).set 3 x0).set 4 x1, d.nums, t1⟩ := by
      have e0 : rdM d.s = (x0, t0) := HXE0.out;have e1 : rdM t0 = (x1, t1) := HXE1.out;unfold rdF1;rw [if_neg (by decide)]
      show (⟨(rdS [(3, 16), (4, 16)] d.z d.s).1, d.nums, (rdS [(3, 16), (4, 16)] d.z d.s).2⟩ : Dc) = _
      simp only [rdS, e0, e1]
     have hD := HD.out;rw [hF] at hD;exact ⟨k + 1, ⟨((d.z).set 3 x0).set 4 x1, d.nums, t1⟩, AN, cN, A1, c1, by omega, by go_num, hD, HNZ.out, hcb1n, hr1n, how1n, hN1, hC1n⟩
    case measure => simp [intOf]; omega
   ·have hv : ((s[k].toNat : Nat) : Int) = 79 := by rw [hat]; rfl
    clear hat
    obtain ⟨x0, t0, hx0⟩ : ∃ x t, rdM ⟨d.s.B, d.s.err⟩ = (x, t) := ⟨_, _, rfl⟩;have HG0 := hJz (rget34 g AR cR d.s.B d.s.err wr hr hx0);have hl0 := hcb.lt;obtain ⟨cz0, fz0⟩ := hcb.got (o := 5) (by decide);have HCB0 := hJz hcb;have HRQ0 := hJz hr;have HOW0 := hJz hown;have HCH0 := hJz hC;have HXE0 := hJz hx0;clear hcb hr hown hC hx0;go_wp2_with (first | (refine HG0.out.mono ?_; rintro e v0 ⟨rfl, hcg0, A0, c0, hrq0⟩; have hcbk0 := CB.mk (HRQ0.out.keepQ hcg0 HCB0.out.blk (fun cs t f e => by injection e with _ e2 _; subst e2; decide)) HCB0.out.len; have hlk0 := hcbk0.lt; obtain ⟨ck0, fk0⟩ := hcbk0.got (o := 5) (by decide); have HCK0 := hJz hcbk0; have HCG0 := hJz hcg0; have HRR0 := hJz hrq0; clear hcbk0 hcg0 hrq0; skip) | fail);have hcb0n := HCK0.out.put (o := 5) (by decide) x0;have hr0n := HRR0.out.belowW (Below.setB (Below.refl b v0) (q := ⟨b, 5, none⟩) (Nat.le_refl _) (.int .i64 x0)) hgb;have how0n := own_chg (own_chg HOW0.out HCG0.out (fun e => by have := (HOW0.out.lt _ e).1; have := HW1g.out; omega) (fun b _ e => by cases e)) (Chg.set (g := b) (row := none) 5 (.int .i64 x0)) (fun e => by have := (HOW0.out.lt _ e).1; have := HW1g.out; omega) (fun b _ e => by cases e);have hC0n := HCH0.out.trans (HCG0.out.toR.trans (Chg.toB (Chg.set (g := b) (row := none) 5 (.int .i64 x0))) (.inl rfl)) (.inl rfl);generalize hgen0 : v0.setCell ⟨b, 5, none⟩ (.int .i64 x0) = u0x at *;clear hgen0 hlk0 ck0 fk0 HG0;obtain ⟨x1, t1, hx1⟩ : ∃ x t, rdM ⟨t0.B, t0.err⟩ = (x, t) := ⟨_, _, rfl⟩;have HG1 := hJz (rget34 g A0 c0 t0.B t0.err u0x hr0n hx1);have HCB1 := hJz hcb0n;have HRQ1 := hJz hr0n;have HOW1 := hJz how0n;have HCH1 := hJz hC0n;have HXE1 := hJz hx1;clear hcb0n hr0n how0n hC0n hx1;go_wp2_with (first | (refine HG1.out.mono ?_; rintro e v1 ⟨rfl, hcg1, A1, c1, hrq1⟩; have hcbk1 := CB.mk (HRQ1.out.keepQ hcg1 HCB1.out.blk (fun cs t f e => by injection e with _ e2 _; subst e2; decide)) HCB1.out.len; have hlk1 := hcbk1.lt; obtain ⟨ck1, fk1⟩ := hcbk1.got (o := 6) (by decide); have HCK1 := hJz hcbk1; have HCG1 := hJz hcg1; have HRR1 := hJz hrq1; clear hcbk1 hcg1 hrq1; skip) | fail);have hcb1n := HCK1.out.put (o := 6) (by decide) x1;have hr1n := HRR1.out.belowW (Below.setB (Below.refl b v1) (q := ⟨b, 6, none⟩) (Nat.le_refl _) (.int .i64 x1)) hgb;have how1n := own_chg (own_chg HOW1.out HCG1.out (fun e => by have := (HOW1.out.lt _ e).1; have := HW1g.out; omega) (fun b _ e => by cases e)) (Chg.set (g := b) (row := none) 6 (.int .i64 x1)) (fun e => by have := (HOW1.out.lt _ e).1; have := HW1g.out; omega) (fun b _ e => by cases e);have hC1n := HCH1.out.trans (HCG1.out.toR.trans (Chg.toB (Chg.set (g := b) (row := none) 6 (.int .i64 x1))) (.inl rfl)) (.inl rfl);go_roundw
    case rel =>
     have hF : rdF1 79 d = ⟨((d.z).set 5 x0).set 6 x1, d.nums, t1⟩ := by
      have e0 : rdM d.s = (x0, t0) := HXE0.out;have e1 : rdM t0 = (x1, t1) := HXE1.out;unfold rdF1;rw [if_neg (by decide)]
      show (⟨(rdS [(5, 16), (6, 16)] d.z d.s).1, d.nums, (rdS [(5, 16), (6, 16)] d.z d.s).2⟩ : Dc) = _
      simp only [rdS, e0, e1]
     have hD := HD.out;rw [hF] at hD;exact ⟨k + 1, ⟨((d.z).set 5 x0).set 6 x1, d.nums, t1⟩, AN, cN, A1, c1, by omega, by go_num, hD, HNZ.out, hcb1n, hr1n, how1n, hN1, hC1n⟩
    case measure => simp [intOf]; omega
   ·have hv : ((s[k].toNat : Nat) : Int) = 73 := by rw [hat]; rfl
    clear hat
    obtain ⟨x0, t0, hx0⟩ : ∃ x t, rdM ⟨d.s.B, d.s.err⟩ = (x, t) := ⟨_, _, rfl⟩;have HG0 := hJz (rget34 g AR cR d.s.B d.s.err wr hr hx0);have hl0 := hcb.lt;obtain ⟨cz0, fz0⟩ := hcb.got (o := 7) (by decide);have HCB0 := hJz hcb;have HRQ0 := hJz hr;have HOW0 := hJz hown;have HCH0 := hJz hC;have HXE0 := hJz hx0;clear hcb hr hown hC hx0;go_wp2_with (first | (refine HG0.out.mono ?_; rintro e v0 ⟨rfl, hcg0, A0, c0, hrq0⟩; have hcbk0 := CB.mk (HRQ0.out.keepQ hcg0 HCB0.out.blk (fun cs t f e => by injection e with _ e2 _; subst e2; decide)) HCB0.out.len; have hlk0 := hcbk0.lt; obtain ⟨ck0, fk0⟩ := hcbk0.got (o := 7) (by decide); have HCK0 := hJz hcbk0; have HCG0 := hJz hcg0; have HRR0 := hJz hrq0; clear hcbk0 hcg0 hrq0; skip) | fail);have hcb0n := HCK0.out.put (o := 7) (by decide) x0;have hr0n := HRR0.out.belowW (Below.setB (Below.refl b v0) (q := ⟨b, 7, none⟩) (Nat.le_refl _) (.int .i64 x0)) hgb;have how0n := own_chg (own_chg HOW0.out HCG0.out (fun e => by have := (HOW0.out.lt _ e).1; have := HW1g.out; omega) (fun b _ e => by cases e)) (Chg.set (g := b) (row := none) 7 (.int .i64 x0)) (fun e => by have := (HOW0.out.lt _ e).1; have := HW1g.out; omega) (fun b _ e => by cases e);have hC0n := HCH0.out.trans (HCG0.out.toR.trans (Chg.toB (Chg.set (g := b) (row := none) 7 (.int .i64 x0))) (.inl rfl)) (.inl rfl);go_roundw
    case rel =>
     have hF : rdF1 73 d = ⟨(d.z).set 7 x0, d.nums, t0⟩ := by
      have e0 : rdM d.s = (x0, t0) := HXE0.out;unfold rdF1;rw [if_neg (by decide)]
      show (⟨(rdS [(7, 8)] d.z d.s).1, d.nums, (rdS [(7, 8)] d.z d.s).2⟩ : Dc) = _
      simp only [rdS, e0]
     have hD := HD.out;rw [hF] at hD;exact ⟨k + 1, ⟨(d.z).set 7 x0, d.nums, t0⟩, AN, cN, A0, c0, by omega, by go_num, hD, HNZ.out, hcb0n, hr0n, how0n, hN1, hC0n⟩
    case measure => simp [intOf]; omega
   ·have hv : ((s[k].toNat : Nat) : Int) = 65 := by rw [hat]; rfl
    clear hat
    obtain ⟨x0, t0, hx0⟩ : ∃ x t, rdM ⟨d.s.B, d.s.err⟩ = (x, t) := ⟨_, _, rfl⟩;have HG0 := hJz (rget34 g AR cR d.s.B d.s.err wr hr hx0);have hl0 := hcb.lt;obtain ⟨cz0, fz0⟩ := hcb.got (o := 8) (by decide);have HCB0 := hJz hcb;have HRQ0 := hJz hr;have HOW0 := hJz hown;have HCH0 := hJz hC;have HXE0 := hJz hx0;clear hcb hr hown hC hx0;go_wp2_with (first | (refine HG0.out.mono ?_; rintro e v0 ⟨rfl, hcg0, A0, c0, hrq0⟩; have hcbk0 := CB.mk (HRQ0.out.keepQ hcg0 HCB0.out.blk (fun cs t f e => by injection e with _ e2 _; subst e2; decide)) HCB0.out.len; have hlk0 := hcbk0.lt; obtain ⟨ck0, fk0⟩ := hcbk0.got (o := 8) (by decide); have HCK0 := hJz hcbk0; have HCG0 := hJz hcg0; have HRR0 := hJz hrq0; clear hcbk0 hcg0 hrq0; skip) | fail);have hcb0n := HCK0.out.put (o := 8) (by decide) x0;have hr0n := HRR0.out.belowW (Below.setB (Below.refl b v0) (q := ⟨b, 8, none⟩) (Nat.le_refl _) (.int .i64 x0)) hgb;have how0n := own_chg (own_chg HOW0.out HCG0.out (fun e => by have := (HOW0.out.lt _ e).1; have := HW1g.out; omega) (fun b _ e => by cases e)) (Chg.set (g := b) (row := none) 8 (.int .i64 x0)) (fun e => by have := (HOW0.out.lt _ e).1; have := HW1g.out; omega) (fun b _ e => by cases e);have hC0n := HCH0.out.trans (HCG0.out.toR.trans (Chg.toB (Chg.set (g := b) (row := none) 8 (.int .i64 x0))) (.inl rfl)) (.inl rfl);go_roundw
    case rel =>
     have hF : rdF1 65 d = ⟨(d.z).set 8 x0, d.nums, t0⟩ := by
      have e0 : rdM d.s = (x0, t0) := HXE0.out;unfold rdF1;rw [if_neg (by decide)]
      show (⟨(rdS [(8, 4)] d.z d.s).1, d.nums, (rdS [(8, 4)] d.z d.s).2⟩ : Dc) = _
      simp only [rdS, e0]
     have hD := HD.out;rw [hF] at hD;exact ⟨k + 1, ⟨(d.z).set 8 x0, d.nums, t0⟩, AN, cN, A0, c0, by omega, by go_num, hD, HNZ.out, hcb0n, hr0n, how0n, hN1, hC0n⟩
    case measure => simp [intOf]; omega
   ·have hv : ((s[k].toNat : Nat) : Int) = 84 := by rw [hat]; rfl
    clear hat
    obtain ⟨x0, t0, hx0⟩ : ∃ x t, rdM ⟨d.s.B, d.s.err⟩ = (x, t) := ⟨_, _, rfl⟩;have HG0 := hJz (rget34 g AR cR d.s.B d.s.err wr hr hx0);have hl0 := hcb.lt;obtain ⟨cz0, fz0⟩ := hcb.got (o := 9) (by decide);have HCB0 := hJz hcb;have HRQ0 := hJz hr;have HOW0 := hJz hown;have HCH0 := hJz hC;have HXE0 := hJz hx0;clear hcb hr hown hC hx0;go_wp2_with (first | (refine HG0.out.mono ?_; rintro e v0 ⟨rfl, hcg0, A0, c0, hrq0⟩; have hcbk0 := CB.mk (HRQ0.out.keepQ hcg0 HCB0.out.blk (fun cs t f e => by injection e with _ e2 _; subst e2; decide)) HCB0.out.len; have hlk0 := hcbk0.lt; obtain ⟨ck0, fk0⟩ := hcbk0.got (o := 9) (by decide); have HCK0 := hJz hcbk0; have HCG0 := hJz hcg0; have HRR0 := hJz hrq0; clear hcbk0 hcg0 hrq0; skip) | fail);have hcb0n := HCK0.out.put (o := 9) (by decide) x0;have hr0n := HRR0.out.belowW (Below.setB (Below.refl b v0) (q := ⟨b, 9, none⟩) (Nat.le_refl _) (.int .i64 x0)) hgb;have how0n := own_chg (own_chg HOW0.out HCG0.out (fun e => by have := (HOW0.out.lt _ e).1; have := HW1g.out; omega) (fun b _ e => by cases e)) (Chg.set (g := b) (row := none) 9 (.int .i64 x0)) (fun e => by have := (HOW0.out.lt _ e).1; have := HW1g.out; omega) (fun b _ e => by cases e);have hC0n := HCH0.out.trans (HCG0.out.toR.trans (Chg.toB (Chg.set (g := b) (row := none) 9 (.int .i64 x0))) (.inl rfl)) (.inl rfl);go_roundw
    case rel =>
     have hF : rdF1 84 d = ⟨(d.z).set 9 x0, d.nums, t0⟩ := by
      have e0 : rdM d.s = (x0, t0) := HXE0.out;unfold rdF1;rw [if_neg (by decide)]
      show (⟨(rdS [(9, 255)] d.z d.s).1, d.nums, (rdS [(9, 255)] d.z d.s).2⟩ : Dc) = _
      simp only [rdS, e0]
     have hD := HD.out;rw [hF] at hD;exact ⟨k + 1, ⟨(d.z).set 9 x0, d.nums, t0⟩, AN, cN, A0, c0, by omega, by go_num, hD, HNZ.out, hcb0n, hr0n, how0n, hN1, hC0n⟩
    case measure => simp [intOf]; omega
   ·have hv : ((s[k].toNat : Nat) : Int) = 68 := by rw [hat]; rfl
    clear hat
    obtain ⟨x0, t0, hx0⟩ : ∃ x t, rdM ⟨d.s.B, d.s.err⟩ = (x, t) := ⟨_, _, rfl⟩;have HG0 := hJz (rget34 g AR cR d.s.B d.s.err wr hr hx0);have hl0 := hcb.lt;obtain ⟨cz0, fz0⟩ := hcb.got (o := 10) (by decide);have HCB0 := hJz hcb;have HRQ0 := hJz hr;have HOW0 := hJz hown;have HCH0 := hJz hC;have HXE0 := hJz hx0;clear hcb hr hown hC hx0;go_wp2_with (first | (refine HG0.out.mono ?_; rintro e v0 ⟨rfl, hcg0, A0, c0, hrq0⟩; have hcbk0 := CB.mk (HRQ0.out.keepQ hcg0 HCB0.out.blk (fun cs t f e => by injection e with _ e2 _; subst e2; decide)) HCB0.out.len; have hlk0 := hcbk0.lt; obtain ⟨ck0, fk0⟩ := hcbk0.got (o := 10) (by decide); have HCK0 := hJz hcbk0; have HCG0 := hJz hcg0; have HRR0 := hJz hrq0; clear hcbk0 hcg0 hrq0; skip) | fail);have hcb0n := HCK0.out.put (o := 10) (by decide) x0;have hr0n := HRR0.out.belowW (Below.setB (Below.refl b v0) (q := ⟨b, 10, none⟩) (Nat.le_refl _) (.int .i64 x0)) hgb;have how0n := own_chg (own_chg HOW0.out HCG0.out (fun e => by have := (HOW0.out.lt _ e).1; have := HW1g.out; omega) (fun b _ e => by cases e)) (Chg.set (g := b) (row := none) 10 (.int .i64 x0)) (fun e => by have := (HOW0.out.lt _ e).1; have := HW1g.out; omega) (fun b _ e => by cases e);have hC0n := HCH0.out.trans (HCG0.out.toR.trans (Chg.toB (Chg.set (g := b) (row := none) 10 (.int .i64 x0))) (.inl rfl)) (.inl rfl);go_roundw
    case rel =>
     have hF : rdF1 68 d = ⟨(d.z).set 10 x0, d.nums, t0⟩ := by
      have e0 : rdM d.s = (x0, t0) := HXE0.out;unfold rdF1;rw [if_neg (by decide)]
      show (⟨(rdS [(10, 1048576)] d.z d.s).1, d.nums, (rdS [(10, 1048576)] d.z d.s).2⟩ : Dc) = _
      simp only [rdS, e0]
     have hD := HD.out;rw [hF] at hD;exact ⟨k + 1, ⟨(d.z).set 10 x0, d.nums, t0⟩, AN, cN, A0, c0, by omega, by go_num, hD, HNZ.out, hcb0n, hr0n, how0n, hN1, hC0n⟩
    case measure => simp [intOf]; omega
   ·have hv : ((s[k].toNat : Nat) : Int) = 81 := by rw [hat]; rfl
    clear hat
    obtain ⟨x0, t0, hx0⟩ : ∃ x t, rdM ⟨d.s.B, d.s.err⟩ = (x, t) := ⟨_, _, rfl⟩;have HG0 := hJz (rget34 g AR cR d.s.B d.s.err wr hr hx0);have hl0 := hcb.lt;obtain ⟨cz0, fz0⟩ := hcb.got (o := 11) (by decide);have HCB0 := hJz hcb;have HRQ0 := hJz hr;have HOW0 := hJz hown;have HCH0 := hJz hC;have HXE0 := hJz hx0;clear hcb hr hown hC hx0;go_wp2_with (first | (refine HG0.out.mono ?_; rintro e v0 ⟨rfl, hcg0, A0, c0, hrq0⟩; have hcbk0 := CB.mk (HRQ0.out.keepQ hcg0 HCB0.out.blk (fun cs t f e => by injection e with _ e2 _; subst e2; decide)) HCB0.out.len; have hlk0 := hcbk0.lt; obtain ⟨ck0, fk0⟩ := hcbk0.got (o := 11) (by decide); have HCK0 := hJz hcbk0; have HCG0 := hJz hcg0; have HRR0 := hJz hrq0; clear hcbk0 hcg0 hrq0; skip) | fail);have hcb0n := HCK0.out.put (o := 11) (by decide) x0;have hr0n := HRR0.out.belowW (Below.setB (Below.refl b v0) (q := ⟨b, 11, none⟩) (Nat.le_refl _) (.int .i64 x0)) hgb;have how0n := own_chg (own_chg HOW0.out HCG0.out (fun e => by have := (HOW0.out.lt _ e).1; have := HW1g.out; omega) (fun b _ e => by cases e)) (Chg.set (g := b) (row := none) 11 (.int .i64 x0)) (fun e => by have := (HOW0.out.lt _ e).1; have := HW1g.out; omega) (fun b _ e => by cases e);have hC0n := HCH0.out.trans (HCG0.out.toR.trans (Chg.toB (Chg.set (g := b) (row := none) 11 (.int .i64 x0))) (.inl rfl)) (.inl rfl);go_roundw
    case rel =>
     have hF : rdF1 81 d = ⟨(d.z).set 11 x0, d.nums, t0⟩ := by
      have e0 : rdM d.s = (x0, t0) := HXE0.out;unfold rdF1;rw [if_neg (by decide)]
      show (⟨(rdS [(11, -1)] d.z d.s).1, d.nums, (rdS [(11, -1)] d.z d.s).2⟩ : Dc) = _
      simp only [rdS, e0]
     have hD := HD.out;rw [hF] at hD;exact ⟨k + 1, ⟨(d.z).set 11 x0, d.nums, t0⟩, AN, cN, A0, c0, by omega, by go_num, hD, HNZ.out, hcb0n, hr0n, how0n, hN1, hC0n⟩
    case measure => simp [intOf]; omega
   ·have hv : ((s[k].toNat : Nat) : Int) = 80 := by rw [hat]; rfl
    clear hat
    obtain ⟨x0, t0, hx0⟩ : ∃ x t, rdM ⟨d.s.B, d.s.err⟩ = (x, t) := ⟨_, _, rfl⟩;have HG0 := hJz (rget34 g AR cR d.s.B d.s.err wr hr hx0);have hl0 := hcb.lt;obtain ⟨cz0, fz0⟩ := hcb.got (o := 12) (by decide);have HCB0 := hJz hcb;have HRQ0 := hJz hr;have HOW0 := hJz hown;have HCH0 := hJz hC;have HXE0 := hJz hx0;clear hcb hr hown hC hx0;go_wp2_with (first | (refine HG0.out.mono ?_; rintro e v0 ⟨rfl, hcg0, A0, c0, hrq0⟩; have hcbk0 := CB.mk (HRQ0.out.keepQ hcg0 HCB0.out.blk (fun cs t f e => by injection e with _ e2 _; subst e2; decide)) HCB0.out.len; have hlk0 := hcbk0.lt; obtain ⟨ck0, fk0⟩ := hcbk0.got (o := 12) (by decide); have HCK0 := hJz hcbk0; have HCG0 := hJz hcg0; have HRR0 := hJz hrq0; clear hcbk0 hcg0 hrq0; skip) | fail);have hcb0n := HCK0.out.put (o := 12) (by decide) x0;have hr0n := HRR0.out.belowW (Below.setB (Below.refl b v0) (q := ⟨b, 12, none⟩) (Nat.le_refl _) (.int .i64 x0)) hgb;have how0n := own_chg (own_chg HOW0.out HCG0.out (fun e => by have := (HOW0.out.lt _ e).1; have := HW1g.out; omega) (fun b _ e => by cases e)) (Chg.set (g := b) (row := none) 12 (.int .i64 x0)) (fun e => by have := (HOW0.out.lt _ e).1; have := HW1g.out; omega) (fun b _ e => by cases e);have hC0n := HCH0.out.trans (HCG0.out.toR.trans (Chg.toB (Chg.set (g := b) (row := none) 12 (.int .i64 x0))) (.inl rfl)) (.inl rfl);go_roundw
    case rel =>
     have hF : rdF1 80 d = ⟨(d.z).set 12 x0, d.nums, t0⟩ := by
      have e0 : rdM d.s = (x0, t0) := HXE0.out;unfold rdF1;rw [if_neg (by decide)]
      show (⟨(rdS [(12, -1)] d.z d.s).1, d.nums, (rdS [(12, -1)] d.z d.s).2⟩ : Dc) = _
      simp only [rdS, e0]
     have hD := HD.out;rw [hF] at hD;exact ⟨k + 1, ⟨(d.z).set 12 x0, d.nums, t0⟩, AN, cN, A0, c0, by omega, by go_num, hD, HNZ.out, hcb0n, hr0n, how0n, hN1, hC0n⟩
    case measure => simp [intOf]; omega
   ·have hv : ((s[k].toNat : Nat) : Int) = 78 := by rw [hat]; rfl
    clear hat
    obtain ⟨n, t1, hn⟩ : ∃ n t1, rdI 0 32 ⟨d.s.B, d.s.err⟩ = (n, t1) := ⟨_, _, rfl⟩;obtain ⟨ns, t2, hns⟩ : ∃ ns t2, rdNs n.toNat t1 = (ns, t2) := ⟨_, _, rfl⟩
    have hn2 : 0 ≤ n ∧ n ≤ 32 := by
     have := rdI_within (lo := 0) (hi := 32) ⟨d.s.B, d.s.err⟩ (by decide) (by decide);rw [hn] at this;exact this
    have hF1 : rdF1 78 d = ⟨d.z, ns, t2⟩ := by
     have hn' : rdI 0 32 d.s = (n, t1) := hn;unfold rdF1;rw [if_pos rfl, hn'];simp only;rw [hns]
    have hDn := HD.out;rw [hF1] at hDn;have HDN := hJz hDn;obtain ⟨m, hmn⟩ : ∃ m : Nat, n = (m : Int) := ⟨n.toNat, by omega⟩;subst hmn;rw [show ((m : Int)).toNat = m by omega] at hns;have hm32 : m ≤ 32 := by omega
    have HNS := hJz hns;rw [HNZ0.out] at hcb hown;have HGT := hJz (qget_any g AR cR d.s.B d.s.err 0 32 wr hr hn);have HCB0 := hJz hcb;have HRQ0 := hJz hr;have HOW0 := hJz hown;have HCH0 := hJz hC;clear hcb hr hown hC hn hns hF1 hDn hn2 HD HNZ HNZ0;go_wp2_with (first | (refine HGT.out.mono ?_; rintro e v5 ⟨rfl, hc5, A5, c5, hr5⟩; have HC5 := hJz hc5; have HR5 := hJz hr5; clear hc5 hr5) | fail);have hcb5 := CB.mk (HRQ0.out.keepQ HC5.out HCB0.out.blk (fun cs t f e => by injection e with _ e2 _; subst e2; decide)) HCB0.out.len;have how5 := own_chg HOW0.out HC5.out (fun e => by have := (HOW0.out.lt _ e).1; have := HW1g.out; omega) (fun b _ e => by cases e);have hC5 : Chg g (some b) v4 v5 := HCH0.out.trans HC5.out.toR (.inl rfl);go_loopw [9] (fun iv wr => ∃ (j : Nat) (AN : Option Addr) (cN : Nat) (A5 : Option Addr) (c5 : Nat), j ≤ m ∧ iv = .int .i64 (j : Int) ∧ CB wr b d.z (.slice AN (rdNs j t1).1.length cN) ∧ Rq wr g A5 c5 (rdNs j t1).2.B (rdNs j t1).2.err ∧ wr.ownsRow W1 2 1 (.slice AN ((rdNs j t1).1).length cN) ((rdNs j t1).1).length (ints .i64 ((rdNs j t1).1)) ∧ Chg g (some b) v4 wr) (fun iv _ => m - (intOf iv).toNat)
    case atStart => exact ⟨0, AN, cN, A5, c5, by omega, rfl, hcb5, HR5.out, how5, hC5⟩
    case round =>
     clear hcb5 how5 hC5 HC5 HR5 HGT HCB0 HRQ0 HOW0 HCH0;clear A5 c5 AN cN;obtain ⟨j, AN, cN, A5, c5, hj1, rfl, hcb, hr, hown, hC⟩ := hrel;have hj0 : (0 : Int) ≤ (j : Int) := by omega
     by_cases hj : j < m
     ·have hji : (j : Int) < (m : Int) := by omega
      obtain ⟨T5, hT5⟩ : ∃ T5, (rdNs j t1).2 = T5 := ⟨_, rfl⟩;obtain ⟨NN, hNN⟩ : ∃ NN, (rdNs j t1).1 = NN := ⟨_, rfl⟩;have hs := rdNs_succ j t1;have hlen := rdNs_len j t1;rw [hT5, hNN] at hs;rw [hNN] at hlen hcb hown;rw [hT5] at hr;obtain ⟨x, T6, hx⟩ : ∃ x t, rdM ⟨T5.B, T5.err⟩ = (x, t) := ⟨_, _, rfl⟩;have hx' : rdM T5 = (x, T6) := hx;rw [hx'] at hs;have HS := hJz hs;have HLEN := hJz hlen;have hNl : NN.length ≤ 32 := by omega
      have hcbD := hcb.below (Below.refl _ wr).drew;have howD := own_below hown (Below.refl _ wr).drew;have hrD := hr.below (Below.refl _ wr).drew;have hCD : Chg g (some b) v4 wr.drew := hC.trans (Chg.of_below (Below.refl _ wr).drew) (.inl rfl);clear hT5 hNN hs hlen hx' hcb hown hr hC;go_upto_region 34 with fail;refine wp_region_held_drew (S := (fun V => Chg g (some b) v4 V)) (by kernel_rfl) (by exact hCD) (fun hHeld => ?_);refine tkJ 0 95 rfl (by intro w; go_simp <;> with_reducible rfl) hHeld ?_; simp only [pqZ];refine tkJ 2 97 rfl (by intro w; go_simp <;> with_reducible rfl) hHeld ?_; simp only [pqZ];refine wpAnyH_ready (rs := [1, 3]) (by kernel_rfl) (by simp) ?_
      refine AllReadyH.cons (o := ⟨some 96, _, _, _, _, _⟩) rfl (fun K hK => ?_) (AllReadyH.cons (o := ⟨some 98, _, _, _, _, _⟩) rfl (fun K hK => ?_) AllReadyH.nil)
      ·have hHd := hHeld
       skip
       have hKeep := hHeld;obtain ⟨kv, fkv⟩ := hcbD.gotV;have hbl := hcbD.lt
       go_simp
       refine hK.out _ _ (by (try dsimp only); exact hKeep) (fun hHeld => ?_); clear hK K hKeep; try simp only [pqZ]
       refine rdZ 3 98 rfl (by kernel_rfl) (fun K hK => ?_)
       go_simp
       refine (rget34 g A5 c5 T5.B T5.err _ hrD hx).mono ?_;rintro e v6 ⟨rfl, hc6, A6, c6, hr6⟩;have hKeep : Chg g (some b) v4 v6 := hHeld.trans hc6.toR (.inl rfl);have hcb1 := CB.mk (hrD.keepQ hc6 hcbD.blk (fun cs t f e => by injection e with _ e2 _; subst e2; decide)) hcbD.len;have how1 := own_chg howD hc6 (fun e => by have := (howD.lt _ e).1; have := HW1g.out; omega) (fun b _ e => by cases e);have hC6 := hKeep;clear hc6;go_wp2_with fail;refine hK.out _ _ (by (try dsimp only); exact hKeep) (fun hHeld => ?_); clear hK K hKeep; try simp only [pqZ]
       refine rdZ 4 99 rfl (by kernel_rfl) (fun K hK => ?_);have hHd := hHeld
       skip
       have hal6 := since_alloc (Below.refl _ v6) (.cells #[.int .i64 x] 2);have hKeep : Chg g (some b) v4 (v6.alloc (.cells #[.int .i64 x] 2)) := hC6.trans (Chg.of_below hal6) (.inl rfl);have hcb2 := hcb1.below hal6;have how2 := own_below how1 hal6;have hr7 := hr6.below hal6;have hC7 := hKeep;clear hal6
       go_simp
       refine hK.out _ _ (by (try dsimp only); exact hKeep) (fun hHeld => ?_); clear hK K hKeep; try simp only [pqZ]
       refine rdZ 5 100 rfl (by kernel_rfl) (fun K hK => ?_);refine step_app rfl (.tmp 96) (.tmp 99) rfl EN34 (n := NN.length) (m := 1) (c := cN) (d := 1) (A := AN) (B := some ⟨v6.heap.size, 0, none⟩) (by simp [Act.eval, Act.put]; done) (by simp [Act.eval, Act.put]; done) how2 (news := [.int .i64 x]) rfl (Sl.new_ _ _ _) (fun u hu => by simp only [List.mem_cons, List.not_mem_nil, or_false] at hu; subst hu; rfl) (by unfold maxLen; omega) (by omega) (by have := hC7.size; have := HWE.out; omega) ?_;intro A8 c8 w8 own8 hg8 hb8;have hKeep : Chg g (some b) v4 w8 := hC7.thenB hb8 (by have := HWE.out; omega);have hcb8 := hcb2.belowW hb8 HW1g.out;have hr8 := hr7.belowW hb8 (by have := HW1g.out; omega);have hC8 := hKeep;obtain ⟨kv8, fkv8⟩ := hcb8.gotV;have hbl8 := hcb8.lt;refine hK.out _ _ (by (try dsimp only); exact hKeep) (fun hHeld => ?_); clear hK K hKeep; try simp only [pqZ]
       refine tkJ 6 101 rfl (by intro w; go_simp <;> with_reducible rfl) hHeld ?_; simp only [pqZ];refine wpAnyH_ready (rs := [7]) (by kernel_rfl) (by simp) ?_;refine AllReadyH.cons (o := ⟨none, _, _, _, _, _⟩) rfl (fun K hK => ?_) AllReadyH.nil;have hHd := hHeld
       skip
       have hKeep : Chg g (some b) v4 (w8.setCell ⟨b, 13, none⟩ (.slice A8 (NN.length + 1) c8)) := hC8.trans (Chg.toB (Chg.set (row := none) 13 _)) (.inl rfl);have hcb9 := hcb8.putV (.slice A8 (NN.length + 1) c8);have hr9 := hr8.belowW (Below.setB (Below.refl b w8) (q := ⟨b, 13, none⟩) (Nat.le_refl _) (.slice A8 (NN.length + 1) c8)) hgb;have own9 := own_chg own8 (Chg.set (g := b) (row := none) 13 (.slice A8 (NN.length + 1) c8)) (fun e => by have := (own8.lt _ e).1; have := HW1g.out; omega) (fun b _ e => by cases e);have hC9 := hKeep
       skip
       go_simp
       refine hK.out _ _ (by (try dsimp only); exact hKeep) (fun hHeld => ?_); clear hK K hKeep; try simp only [pqZ]
       refine wpAnyH_done (by kernel_rfl) ?_ _;go_wp2_with fail;go_roundw
       case rel =>
        have hs := HS.out;have hlk := HLEN.out;have hl7 : (rdNs (j + 1) t1).1.length = NN.length + 1 := by rw [hs.1, List.length_append]; rfl
        refine ⟨j + 1, A8, c8, A6, c6, by omega, by go_num, by rw [hl7]; exact hcb9, by rw [hs.2]; exact hr9, ?_, hC9⟩;rw [hl7, hs.1];simpa [ints] using own9
       case measure => simp [intOf]; omega
      ·go_simp
       refine (rget34 g A5 c5 T5.B T5.err _ hrD hx).mono ?_;rintro e v6 ⟨rfl, hc6, A6, c6, hr6⟩;have hKeep : Chg g (some b) v4 v6 := hHeld.trans hc6.toR (.inl rfl);have hcb1 := CB.mk (hrD.keepQ hc6 hcbD.blk (fun cs t f e => by injection e with _ e2 _; subst e2; decide)) hcbD.len;have how1 := own_chg howD hc6 (fun e => by have := (howD.lt _ e).1; have := HW1g.out; omega) (fun b _ e => by cases e);have hC6 := hKeep;clear hc6;go_wp2_with fail;refine hK.out _ _ (by (try dsimp only); exact hKeep) (fun hHeld => ?_); clear hK K hKeep; try simp only [pqZ]
       refine wpAnyH_ready (rs := [1, 4]) (by kernel_rfl) (by simp) ?_
       refine AllReadyH.cons (o := ⟨some 96, _, _, _, _, _⟩) rfl (fun K hK => ?_) (AllReadyH.cons (o := ⟨some 99, _, _, _, _, _⟩) rfl (fun K hK => ?_) AllReadyH.nil)
       ·have hHd := hHeld
        skip
        have hKeep := hHeld;obtain ⟨kv, fkv⟩ := hcb1.gotV;have hbl := hcb1.lt
        go_simp
        refine hK.out _ _ (by (try dsimp only); exact hKeep) (fun hHeld => ?_); clear hK K hKeep; try simp only [pqZ]
        refine rdZ 4 99 rfl (by kernel_rfl) (fun K hK => ?_);have hHd := hHeld
        skip
        have hal6 := since_alloc (Below.refl _ v6) (.cells #[.int .i64 x] 2);have hKeep : Chg g (some b) v4 (v6.alloc (.cells #[.int .i64 x] 2)) := hC6.trans (Chg.of_below hal6) (.inl rfl);have hcb2 := hcb1.below hal6;have how2 := own_below how1 hal6;have hr7 := hr6.below hal6;have hC7 := hKeep;clear hal6
        go_simp
        refine hK.out _ _ (by (try dsimp only); exact hKeep) (fun hHeld => ?_); clear hK K hKeep; try simp only [pqZ]
        refine rdZ 5 100 rfl (by kernel_rfl) (fun K hK => ?_);refine step_app rfl (.tmp 96) (.tmp 99) rfl EN34 (n := NN.length) (m := 1) (c := cN) (d := 1) (A := AN) (B := some ⟨v6.heap.size, 0, none⟩) (by simp [Act.eval, Act.put]; done) (by simp [Act.eval, Act.put]; done) how2 (news := [.int .i64 x]) rfl (Sl.new_ _ _ _) (fun u hu => by simp only [List.mem_cons, List.not_mem_nil, or_false] at hu; subst hu; rfl) (by unfold maxLen; omega) (by omega) (by have := hC7.size; have := HWE.out; omega) ?_;intro A8 c8 w8 own8 hg8 hb8;have hKeep : Chg g (some b) v4 w8 := hC7.thenB hb8 (by have := HWE.out; omega);have hcb8 := hcb2.belowW hb8 HW1g.out;have hr8 := hr7.belowW hb8 (by have := HW1g.out; omega);have hC8 := hKeep;obtain ⟨kv8, fkv8⟩ := hcb8.gotV;have hbl8 := hcb8.lt;refine hK.out _ _ (by (try dsimp only); exact hKeep) (fun hHeld => ?_); clear hK K hKeep; try simp only [pqZ]
        refine tkJ 6 101 rfl (by intro w; go_simp <;> with_reducible rfl) hHeld ?_; simp only [pqZ];refine wpAnyH_ready (rs := [7]) (by kernel_rfl) (by simp) ?_;refine AllReadyH.cons (o := ⟨none, _, _, _, _, _⟩) rfl (fun K hK => ?_) AllReadyH.nil;have hHd := hHeld
        skip
        have hKeep : Chg g (some b) v4 (w8.setCell ⟨b, 13, none⟩ (.slice A8 (NN.length + 1) c8)) := hC8.trans (Chg.toB (Chg.set (row := none) 13 _)) (.inl rfl);have hcb9 := hcb8.putV (.slice A8 (NN.length + 1) c8);have hr9 := hr8.belowW (Below.setB (Below.refl b w8) (q := ⟨b, 13, none⟩) (Nat.le_refl _) (.slice A8 (NN.length + 1) c8)) hgb;have own9 := own_chg own8 (Chg.set (g := b) (row := none) 13 (.slice A8 (NN.length + 1) c8)) (fun e => by have := (own8.lt _ e).1; have := HW1g.out; omega) (fun b _ e => by cases e);have hC9 := hKeep
        skip
        go_simp
        refine hK.out _ _ (by (try dsimp only); exact hKeep) (fun hHeld => ?_); clear hK K hKeep; try simp only [pqZ]
        refine wpAnyH_done (by kernel_rfl) ?_ _;go_wp2_with fail;go_roundw
        case rel =>
         have hs := HS.out;have hlk := HLEN.out;have hl7 : (rdNs (j + 1) t1).1.length = NN.length + 1 := by rw [hs.1, List.length_append]; rfl
         refine ⟨j + 1, A8, c8, A6, c6, by omega, by go_num, by rw [hl7]; exact hcb9, by rw [hs.2]; exact hr9, ?_, hC9⟩;rw [hl7, hs.1];simpa [ints] using own9
        case measure => simp [intOf]; omega
       ·have hHd := hHeld
        skip
        have hal6 := since_alloc (Below.refl _ v6) (.cells #[.int .i64 x] 2);have hKeep : Chg g (some b) v4 (v6.alloc (.cells #[.int .i64 x] 2)) := hC6.trans (Chg.of_below hal6) (.inl rfl);have hcb2 := hcb1.below hal6;have how2 := own_below how1 hal6;have hr7 := hr6.below hal6;have hC7 := hKeep;clear hal6
        go_simp
        refine hK.out _ _ (by (try dsimp only); exact hKeep) (fun hHeld => ?_); clear hK K hKeep; try simp only [pqZ]
        refine rdZ 1 96 rfl (by kernel_rfl) (fun K hK => ?_);have hHd := hHeld
        skip
        have hKeep := hHeld;obtain ⟨kv, fkv⟩ := hcb2.gotV;have hbl := hcb2.lt
        go_simp
        refine hK.out _ _ (by (try dsimp only); exact hKeep) (fun hHeld => ?_); clear hK K hKeep; try simp only [pqZ]
        refine rdZ 5 100 rfl (by kernel_rfl) (fun K hK => ?_);refine step_app rfl (.tmp 96) (.tmp 99) rfl EN34 (n := NN.length) (m := 1) (c := cN) (d := 1) (A := AN) (B := some ⟨v6.heap.size, 0, none⟩) (by simp [Act.eval, Act.put]; done) (by simp [Act.eval, Act.put]; done) how2 (news := [.int .i64 x]) rfl (Sl.new_ _ _ _) (fun u hu => by simp only [List.mem_cons, List.not_mem_nil, or_false] at hu; subst hu; rfl) (by unfold maxLen; omega) (by omega) (by have := hC7.size; have := HWE.out; omega) ?_;intro A8 c8 w8 own8 hg8 hb8;have hKeep : Chg g (some b) v4 w8 := hC7.thenB hb8 (by have := HWE.out; omega);have hcb8 := hcb2.belowW hb8 HW1g.out;have hr8 := hr7.belowW hb8 (by have := HW1g.out; omega);have hC8 := hKeep;obtain ⟨kv8, fkv8⟩ := hcb8.gotV;have hbl8 := hcb8.lt;refine hK.out _ _ (by (try dsimp only); exact hKeep) (fun hHeld => ?_); clear hK K hKeep; try simp only [pqZ]
        refine tkJ 6 101 rfl (by intro w; go_simp <;> with_reducible rfl) hHeld ?_; simp only [pqZ];refine wpAnyH_ready (rs := [7]) (by kernel_rfl) (by simp) ?_;refine AllReadyH.cons (o := ⟨none, _, _, _, _, _⟩) rfl (fun K hK => ?_) AllReadyH.nil;have hHd := hHeld
        skip
        have hKeep : Chg g (some b) v4 (w8.setCell ⟨b, 13, none⟩ (.slice A8 (NN.length + 1) c8)) := hC8.trans (Chg.toB (Chg.set (row := none) 13 _)) (.inl rfl);have hcb9 := hcb8.putV (.slice A8 (NN.length + 1) c8);have hr9 := hr8.belowW (Below.setB (Below.refl b w8) (q := ⟨b, 13, none⟩) (Nat.le_refl _) (.slice A8 (NN.length + 1) c8)) hgb;have own9 := own_chg own8 (Chg.set (g := b) (row := none) 13 (.slice A8 (NN.length + 1) c8)) (fun e => by have := (own8.lt _ e).1; have := HW1g.out; omega) (fun b _ e => by cases e);have hC9 := hKeep
        skip
        go_simp
        refine hK.out _ _ (by (try dsimp only); exact hKeep) (fun hHeld => ?_); clear hK K hKeep; try simp only [pqZ]
        refine wpAnyH_done (by kernel_rfl) ?_ _;go_wp2_with fail;go_roundw
        case rel =>
         have hs := HS.out;have hlk := HLEN.out;have hl7 : (rdNs (j + 1) t1).1.length = NN.length + 1 := by rw [hs.1, List.length_append]; rfl
         refine ⟨j + 1, A8, c8, A6, c6, by omega, by go_num, by rw [hl7]; exact hcb9, by rw [hs.2]; exact hr9, ?_, hC9⟩;rw [hl7, hs.1];simpa [ints] using own9
        case measure => simp [intOf]; omega
     ·obtain rfl : j = m := by omega
      rw [HNS.out] at hcb hr hown
      have hnl : ns.length ≤ 1000 := by
       have := rdNs_len j t1;rw [HNS.out] at this;simp only at this;omega
      have HLK2 : k + 1 = s.size := by first | exact HLK.out rfl | exact HLK.out trivial
      have HCB9 := hJz hcb;have HR9 := hJz hr;have HO9 := hJz hown;have HC9 := hJz hC;have HNL := hJz hnl;have HL2 := hJz HLK2;clear hcb hr hown hC hnl HLK2;go_wp2_with fail;go_roundw
      case rel => exact ⟨k + 1, ⟨d.z, ns, t2⟩, AN, cN, A5, c5, by omega, by go_num, HDN.out, fun h => absurd HL2.out (by omega), HCB9.out, HR9.out, HO9.out, HNL.out, HC9.out⟩
      case measure => simp [intOf]; omega
  ·obtain rfl : k = s.size := by omega
   rw [List.drop_eq_nil_of_le (by have := HSZ.out; omega)] at hD;have hD : d = D := hD;subst hD;obtain ⟨hq5, hB5⟩ := HK4.out wr hC;obtain ⟨E, hE⟩ : ∃ E, endF d.s = E := ⟨_, rfl⟩;have HEN := hJz (qend_any g AR cR d.s.B d.s.err wr hr);have hE2 : endF ⟨d.s.B, d.s.err⟩ = E := hE;rw [hE2] at HEN;by_cases hE0 : E = 0
   case neg =>
    have hok : okE d = false := by
     unfold okE;rw [hE, decide_eq_false hE0, Bool.false_and]
    have HOK := hJz hok;have hE1 : (E != 0) = true := by simpa using hE0
    have hcs := @cell_set;have hql5 := (Array.getElem?_eq_some_iff.1 hq5).1;have kq0 : wr.cell? ⟨q0, 0, none⟩ = some (.int .i64 0) := by rw [cell_of_row wr q0 0 _ _ (0, 0) hq5]; rfl
    have kq1 : wr.cell? ⟨q0, 1, none⟩ = some (.int .i64 0) := by rw [cell_of_row wr q0 1 _ _ (0, 0) hq5]; rfl
    have kq2 : wr.cell? ⟨q0, 2, none⟩ = some (.int .i64 0) := by rw [cell_of_row wr q0 2 _ _ (0, 0) hq5]; rfl
    have kq3 : wr.cell? ⟨q0, 3, none⟩ = some (.int .i64 0) := by rw [cell_of_row wr q0 3 _ _ (0, 0) hq5]; rfl
    have kq4 : wr.cell? ⟨q0, 4, none⟩ = some (.int .i64 0) := by rw [cell_of_row wr q0 4 _ _ (0, 0) hq5]; rfl
    have kq5 : wr.cell? ⟨q0, 5, none⟩ = some (.int .i64 0) := by rw [cell_of_row wr q0 5 _ _ (0, 0) hq5]; rfl
    have kq6 : wr.cell? ⟨q0, 6, none⟩ = some (.int .i64 0) := by rw [cell_of_row wr q0 6 _ _ (0, 0) hq5]; rfl
    have kq7 : wr.cell? ⟨q0, 7, none⟩ = some (.int .i64 0) := by rw [cell_of_row wr q0 7 _ _ (0, 0) hq5]; rfl
    have kq8 : wr.cell? ⟨q0, 8, none⟩ = some (.int .i64 0) := by rw [cell_of_row wr q0 8 _ _ (0, 0) hq5]; rfl
    have kq9 : wr.cell? ⟨q0, 9, none⟩ = some (.int .i64 0) := by rw [cell_of_row wr q0 9 _ _ (0, 0) hq5]; rfl
    have kq10 : wr.cell? ⟨q0, 10, none⟩ = some (.int .i64 0) := by rw [cell_of_row wr q0 10 _ _ (0, 0) hq5]; rfl
    have kq11 : wr.cell? ⟨q0, 11, none⟩ = some (.int .i64 0) := by rw [cell_of_row wr q0 11 _ _ (0, 0) hq5]; rfl
    have kq12 : wr.cell? ⟨q0, 12, none⟩ = some (.int .i64 0) := by rw [cell_of_row wr q0 12 _ _ (0, 0) hq5]; rfl
    have kq13 : wr.cell? ⟨q0, 13, none⟩ = some (.slice none 0 0) := by rw [cell_of_row wr q0 13 _ _ (0, 0) hq5]; rfl
    have fq : ∀ i, wr.frozen? ⟨q0, i, none⟩ = false := fun i => by simp [World.frozen?, hq5]
    clear hq5 hE hE2 hE0 hok hcb hr hown hC hNZ;go_wp2_with fail;refine HEN.out.mono ?_;rintro e v5 ⟨rfl, rfl⟩;go_wp2_with fail
    refine bodyPost_ret (v := .tuple #[.agg #[.int .i64 0, .int .i64 0, .int .i64 0, .int .i64 0, .int .i64 0, .int .i64 0, .int .i64 0, .int .i64 0, .int .i64 0, .int .i64 0, .int .i64 0, .int .i64 0, .int .i64 0, .slice none 0 0], .int .i64 3]) ?_ rfl ⟨?_, ?_⟩
    ·simp [results, Tryz.results50, go_sem, kq0, kq1, kq2, kq3, kq4, kq5, kq6, kq7, kq8, kq9, kq10, kq11, kq12, kq13, fq]
    ·unfold DRes34; rw [HOK.out, if_neg (by decide)]
    ·repeat' (first | with_reducible exact hB5 | with_reducible refine Below.setCell ?_ ?_ _)
     all_goals exact Nat.le_refl _
   subst hE0
   obtain ⟨y0, y1, y2, y3, y4, y5, y6, y7, y8, y9, y10, y11, y12, hz⟩ : ∃ y0 y1 y2 y3 y4 y5 y6 y7 y8 y9 y10 y11 y12, d.z = [y0, y1, y2, y3, y4, y5, y6, y7, y8, y9, y10, y11, y12] := by
    have hlen := hcb.len
    match d.z, hlen with
    | [y0, y1, y2, y3, y4, y5, y6, y7, y8, y9, y10, y11, y12], _ => exact ⟨_, _, _, _, _, _, _, _, _, _, _, _, _, rfl⟩
   have hokD : okE d = isZ [y0, y1, y2, y3, y4, y5, y6, y7, y8, y9, y10, y11, y12] d.nums.length := by
    unfold okE;rw [hE, decide_eq_true rfl, Bool.true_and, hz]
   rw [hz] at hcb;have HZ := hJz hz;have HCB := hJz (fun V (hV : Below wr.heap.size wr V) => hcb.below hV);have HOWN := hJz (fun V (hV : Below wr.heap.size wr V) => own_below hown hV);have hqW : q0 ≤ W1 := by have := HW1g.out; omega
   obtain ⟨R, hR⟩ : ∃ R, isZ [y0, y1, y2, y3, y4, y5, y6, y7, y8, y9, y10, y11, y12] d.nums.length = R := ⟨_, rfl⟩;rw [hR] at hokD;have HOK := hJz hokD;have HCK := hJz (fun V => ris34E y0 y1 y2 y3 y4 y5 y6 y7 y8 y9 y10 y11 y12 AN d.nums.length cN V (by unfold maxLen; omega));rw [hR] at HCK;have HQV : Hid (∀ V, Below wr.heap.size wr V → V.heap[q0]? = some (.cells #[.int .i64 0, .int .i64 0, .int .i64 0, .int .i64 0, .int .i64 0, .int .i64 0, .int .i64 0, .int .i64 0, .int .i64 0, .int .i64 0, .int .i64 0, .int .i64 0, .int .i64 0, .slice none 0 0] 26 (0, 0)) ∧ Below q0 w V) := hJz fun V hV => ⟨(hV.block q0 (Array.getElem?_eq_some_iff.1 hq5).1).trans hq5, hB5.trans (hV.mono (Nat.le_of_lt (Array.getElem?_eq_some_iff.1 hq5).1))⟩;obtain ⟨k0, fk0⟩ := hcb.got (o := 0) (by decide);obtain ⟨k1, fk1⟩ := hcb.got (o := 1) (by decide);obtain ⟨k2, fk2⟩ := hcb.got (o := 2) (by decide);obtain ⟨k3, fk3⟩ := hcb.got (o := 3) (by decide);obtain ⟨k4, fk4⟩ := hcb.got (o := 4) (by decide);obtain ⟨k5, fk5⟩ := hcb.got (o := 5) (by decide);obtain ⟨k6, fk6⟩ := hcb.got (o := 6) (by decide);obtain ⟨k7, fk7⟩ := hcb.got (o := 7) (by decide);obtain ⟨k8, fk8⟩ := hcb.got (o := 8) (by decide);obtain ⟨k9, fk9⟩ := hcb.got (o := 9) (by decide);obtain ⟨k10, fk10⟩ := hcb.got (o := 10) (by decide);obtain ⟨k11, fk11⟩ := hcb.got (o := 11) (by decide);obtain ⟨k12, fk12⟩ := hcb.got (o := 12) (by decide);obtain ⟨k13, fk13⟩ := hcb.gotV;have hbl5 := hcb.lt;simp only [List.getD_cons_zero, List.getD_cons_succ] at k0 k1 k2 k3 k4 k5 k6 k7 k8 k9 k10 k11 k12;clear fk0 fk1 fk2 fk3 fk4 fk5 fk6 fk7 fk8 fk9 fk10 fk11 fk12 fk13 hE hE2 hz hcb hokD hR hr hown hC hq5 hB5 hNZ;go_wp2_with fail;refine HEN.out.mono ?_;rintro e v5 ⟨rfl, rfl⟩;go_wp2_with fail;refine (HCK.out _).mono ?_;rintro e v6 ⟨rfl, hb6⟩;obtain ⟨hq5, hB5⟩ := HQV.out v6 hb6;have hcb6 := HCB.out v6 hb6;have hown6 := HOWN.out v6 hb6;have hcs := @cell_set;clear k0 k1 k2 k3 k4 k5 k6 k7 k8 k9 k10 k11 k12 k13 hb6 hbl5 HQV HCB HOWN HCK HEN;obtain ⟨k0, fk0⟩ := hcb6.got (o := 0) (by decide);obtain ⟨k1, fk1⟩ := hcb6.got (o := 1) (by decide);obtain ⟨k2, fk2⟩ := hcb6.got (o := 2) (by decide);obtain ⟨k3, fk3⟩ := hcb6.got (o := 3) (by decide);obtain ⟨k4, fk4⟩ := hcb6.got (o := 4) (by decide);obtain ⟨k5, fk5⟩ := hcb6.got (o := 5) (by decide);obtain ⟨k6, fk6⟩ := hcb6.got (o := 6) (by decide);obtain ⟨k7, fk7⟩ := hcb6.got (o := 7) (by decide);obtain ⟨k8, fk8⟩ := hcb6.got (o := 8) (by decide);obtain ⟨k9, fk9⟩ := hcb6.got (o := 9) (by decide);obtain ⟨k10, fk10⟩ := hcb6.got (o := 10) (by decide);obtain ⟨k11, fk11⟩ := hcb6.got (o := 11) (by decide);obtain ⟨k12, fk12⟩ := hcb6.got (o := 12) (by decide);obtain ⟨k13, fk13⟩ := hcb6.gotV;have hbl6 := hcb6.lt;simp only [List.getD_cons_zero, List.getD_cons_succ] at k0 k1 k2 k3 k4 k5 k6 k7 k8 k9 k10 k11 k12;clear fk0 fk1 fk2 fk3 fk4 fk5 fk6 fk7 fk8 fk9 fk10 fk11 fk12 fk13 hcb6;have hql5 := (Array.getElem?_eq_some_iff.1 hq5).1;have kq0 : v6.cell? ⟨q0, 0, none⟩ = some (.int .i64 0) := by rw [cell_of_row v6 q0 0 _ _ (0, 0) hq5]; rfl
   have kq1 : v6.cell? ⟨q0, 1, none⟩ = some (.int .i64 0) := by rw [cell_of_row v6 q0 1 _ _ (0, 0) hq5]; rfl
   have kq2 : v6.cell? ⟨q0, 2, none⟩ = some (.int .i64 0) := by rw [cell_of_row v6 q0 2 _ _ (0, 0) hq5]; rfl
   have kq3 : v6.cell? ⟨q0, 3, none⟩ = some (.int .i64 0) := by rw [cell_of_row v6 q0 3 _ _ (0, 0) hq5]; rfl
   have kq4 : v6.cell? ⟨q0, 4, none⟩ = some (.int .i64 0) := by rw [cell_of_row v6 q0 4 _ _ (0, 0) hq5]; rfl
   have kq5 : v6.cell? ⟨q0, 5, none⟩ = some (.int .i64 0) := by rw [cell_of_row v6 q0 5 _ _ (0, 0) hq5]; rfl
   have kq6 : v6.cell? ⟨q0, 6, none⟩ = some (.int .i64 0) := by rw [cell_of_row v6 q0 6 _ _ (0, 0) hq5]; rfl
   have kq7 : v6.cell? ⟨q0, 7, none⟩ = some (.int .i64 0) := by rw [cell_of_row v6 q0 7 _ _ (0, 0) hq5]; rfl
   have kq8 : v6.cell? ⟨q0, 8, none⟩ = some (.int .i64 0) := by rw [cell_of_row v6 q0 8 _ _ (0, 0) hq5]; rfl
   have kq9 : v6.cell? ⟨q0, 9, none⟩ = some (.int .i64 0) := by rw [cell_of_row v6 q0 9 _ _ (0, 0) hq5]; rfl
   have kq10 : v6.cell? ⟨q0, 10, none⟩ = some (.int .i64 0) := by rw [cell_of_row v6 q0 10 _ _ (0, 0) hq5]; rfl
   have kq11 : v6.cell? ⟨q0, 11, none⟩ = some (.int .i64 0) := by rw [cell_of_row v6 q0 11 _ _ (0, 0) hq5]; rfl
   have kq12 : v6.cell? ⟨q0, 12, none⟩ = some (.int .i64 0) := by rw [cell_of_row v6 q0 12 _ _ (0, 0) hq5]; rfl
   have kq13 : v6.cell? ⟨q0, 13, none⟩ = some (.slice none 0 0) := by rw [cell_of_row v6 q0 13 _ _ (0, 0) hq5]; rfl
   have fq : ∀ i, v6.frozen? ⟨q0, i, none⟩ = false := fun i => by simp [World.frozen?, hq5]
   have HOWN6 := hJz hown6;have HNQ : Hid ((Value.slice AN d.nums.length cN).ownBlock ≠ some q0) := hJz fun e => by have := (hown6.lt _ e).1; have := HW1g.out; omega
   clear hq5 hown6
   cases R with
   | false =>
    go_wp2_with fail
    refine bodyPost_ret (v := .tuple #[.agg #[.int .i64 0, .int .i64 0, .int .i64 0, .int .i64 0, .int .i64 0, .int .i64 0, .int .i64 0, .int .i64 0, .int .i64 0, .int .i64 0, .int .i64 0, .int .i64 0, .int .i64 0, .slice none 0 0], .int .i64 3]) ?_ rfl ⟨?_, ?_⟩
    ·simp [results, Tryz.results50, go_sem, kq0, kq1, kq2, kq3, kq4, kq5, kq6, kq7, kq8, kq9, kq10, kq11, kq12, kq13, fq]
    ·unfold DRes34; rw [HOK.out, if_neg (by decide)]
    ·repeat' (first | with_reducible exact hB5 | with_reducible refine Below.setCell ?_ ?_ _)
     all_goals exact Nat.le_refl _
   | true =>
    go_wp2_with fail
    refine bodyPost_ret (v := .tuple #[.agg #[.int .i64 y0, .int .i64 y1, .int .i64 y2, .int .i64 y3, .int .i64 y4, .int .i64 y5, .int .i64 y6, .int .i64 y7, .int .i64 y8, .int .i64 y9, .int .i64 y10, .int .i64 y11, .int .i64 y12, .slice AN d.nums.length cN], .int .i64 0]) ?_ rfl ⟨?_, ?_⟩
    ·simp [results, Tryz.results50, go_sem, kq0, kq1, kq2, kq3, kq4, kq5, kq6, kq7, kq8, kq9, kq10, kq11, kq12, kq13, fq]
    ·unfold DRes34;rw [HOK.out, if_pos rfl];refine ⟨AN, cN, by rw [HZ.out]; rfl, ?_⟩;exact own_base8 ((own_chg (own_chg (own_chg (own_chg (own_chg (own_chg (own_chg (own_chg (own_chg (own_chg (own_chg (own_chg (own_chg (own_chg HOWN6.out (Chg.set (g := q0) (row := none) 0 (.int .i64 y0)) HNQ.out (fun b _ e => by cases e)) (Chg.set (g := q0) (row := none) 1 (.int .i64 y1)) HNQ.out (fun b _ e => by cases e)) (Chg.set (g := q0) (row := none) 2 (.int .i64 y2)) HNQ.out (fun b _ e => by cases e)) (Chg.set (g := q0) (row := none) 3 (.int .i64 y3)) HNQ.out (fun b _ e => by cases e)) (Chg.set (g := q0) (row := none) 4 (.int .i64 y4)) HNQ.out (fun b _ e => by cases e)) (Chg.set (g := q0) (row := none) 5 (.int .i64 y5)) HNQ.out (fun b _ e => by cases e)) (Chg.set (g := q0) (row := none) 6 (.int .i64 y6)) HNQ.out (fun b _ e => by cases e)) (Chg.set (g := q0) (row := none) 7 (.int .i64 y7)) HNQ.out (fun b _ e => by cases e)) (Chg.set (g := q0) (row := none) 8 (.int .i64 y8)) HNQ.out (fun b _ e => by cases e)) (Chg.set (g := q0) (row := none) 9 (.int .i64 y9)) HNQ.out (fun b _ e => by cases e)) (Chg.set (g := q0) (row := none) 10 (.int .i64 y10)) HNQ.out (fun b _ e => by cases e)) (Chg.set (g := q0) (row := none) 11 (.int .i64 y11)) HNQ.out (fun b _ e => by cases e)) (Chg.set (g := q0) (row := none) 12 (.int .i64 y12)) HNQ.out (fun b _ e => by cases e)) (Chg.set (g := q0) (row := none) 13 (.slice AN d.nums.length cN)) HNQ.out (fun b _ e => by cases e))) hqW
    ·repeat' (first | with_reducible exact hB5 | with_reducible refine Below.setCell ?_ ?_ _)
     all_goals exact Nat.le_refl _
end
end Go.Proofs.YtpmnjojednbnpaaGreatDoor
