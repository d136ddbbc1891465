import Derived.Test.YtpmnjojednbnpaaGreatDoorWf13
set_option maxHeartbeats 16000000
set_option maxRecDepth 100000
set_option linter.unusedVariables false
set_option linter.unusedSimpArgs false
namespace Go.Proofs.YtpmnjojednbnpaaGreatDoor
open Go.ChangeShapes Go.WideShapes Go.ChangeAt Go.RowKit
section
def putS (q : List Int × Bool) (sp : (Nat × Int) × List UInt8) : List Int × Bool := (q.1.set sp.1.1 (valP sp.2).1, q.2 || (valP sp.2).2)
def fillP (f : Nat) (P : List (List UInt8)) (bad : Bool) (z : List Int) : List Int × List (List UInt8) × Bool :=
  if f = 78 then (z, [], bad || badsP P)
  else if (splD 46 (wordP P bad).1).length = (slotL f).length then ((((slotL f).zip (splD 46 (wordP P bad).1)).foldl putS (z, (wordP P bad).2.2)).1, (wordP P bad).2.1, (((slotL f).zip (splD 46 (wordP P bad).1)).foldl putS (z, (wordP P bad).2.2)).2)
  else (z, (wordP P bad).2.1, true)
theorem RdS.offB {w w' : World} {g b : Nat} {A : Option Addr} {c : Nat} {P : List (List UInt8)} {bad : Bool} (h : RdS w g A c P bad) (hC : Chg b none w w') (hgb : g < b) (hb : b ≤ w.heap.size) : RdS w' g A c P bad :=
 h.belowR (hC.below hb (Nat.le_refl _) (fun b e => by cases e)) hgb
theorem CB.offG {w w' : World} {g b : Nat} {z : List Int} {v : Value} (h : CB w b z v) (hC : Chg g none w w') (hgb : g < b) : CB w' b z v :=
 ⟨(hC.block b h.lt (by omega) (fun e => by cases e)).trans h.blk, h.len⟩
theorem Chg.toRW {g b : Nat} {w w' : World} (h : Chg g none w w') : Chg g (some b) w w' := ⟨h.os, h.tape, h.output, h.size, fun k hk hg _ => h.block k hk hg (fun e => by cases e)⟩
theorem Chg.toBW {g b : Nat} {w w' : World} (h : Chg b none w w') : Chg g (some b) w w' := ⟨h.os, h.tape, h.output, h.size, fun k hk _ hb => h.block k hk (fun e => hb (by rw [e])) (fun e => by cases e)⟩
theorem SR.keepG {w w' : World} {A : Option Addr} {b f g c : Nat} {A2 : Option Addr} {P : List (List UInt8)} {bad : Bool} {z : List Int} {v : Value} (h : SR w A b f) (hR : RdS w g A2 c P bad) (hB : CB w b z v) (hC : Chg g (some b) w w') : SR w' A b f := by
 rcases h with h | ⟨b2, e, h⟩
 ·exact .inl h
 ·refine .inr ⟨b2, e, (hC.block b2 (Array.getElem?_eq_some_iff.1 h).1 (fun e => ?_) (fun e => ?_)).trans h⟩
  ·subst e;rw [hR.blk] at h;injection h with h;injection h with _ h2 _;exact absurd h2 (by decide)
  ·injection e with e;subst e;rw [hB.blk] at h;injection h with h;injection h with _ h2 _;exact absurd h2 (by decide)
theorem wordP_len (P : List (List UInt8)) (bad : Bool) {m : Nat} (h : ∀ l ∈ P, l.length ≤ m) : (wordP P bad).1.length ≤ m ∧ ∀ l ∈ (wordP P bad).2.1, l.length ≤ m := by
 match P, h with
 | [], _ => exact ⟨by simp [wordP], (fun l hl => by cases hl)⟩
 | x :: r, h => exact ⟨h x (by simp), fun l hl => h l (by simp [show l ∈ r from hl])⟩
def numsAt (w' : World) (W : Nat) (f : Nat) (P : List (List UInt8)) (v v' : Value) : Prop :=
  if f = 78 then ∃ A2 c2, v' = .slice A2 P.length c2 ∧ w'.ownsRow W 2 1 (.slice A2 P.length c2) P.length (ints .i64 (valsP P)) else v' = v
theorem rfill (g b : Nat) (A : Option Addr) (c : Nat) (P : List (List UInt8)) (bad : Bool) (z : List Int) (v : Value) (f : Nat) (w : World) (hR : RdS w g A c P bad) (hB : CB w b z v) (hgb : g < b) (hl : ∀ l ∈ P, l.length ≤ 10000) (hP : P.length ≤ 100000) (hE : ∀ V, Chg g (some b) w V → Ev V) :
  Calls Tryz.prog 41 #[.pointer (some ⟨g, 0, none⟩), .pointer (some ⟨b, 0, none⟩), .int .i32 (f : Int)] w fun e w' => e = .returned (.tuple #[]) ∧ ∃ v' A' c', CB w' b (fillP f P bad z).1 v' ∧ numsAt w' w.heap.size f P v v' ∧ RdS w' g A' c' (fillP f P bad z).2.1 (fillP f P bad z).2.2 ∧ Chg g (some b) w w' := by
 have HR := hJz hR;have HB := hJz hB;have HE := hJz hE;have HL := hJz hl;have hbl := hB.lt
 by_cases h78 : f = 78
 ·have hf : fillP f P bad z = (z, [], bad || badsP P) := by unfold fillP; rw [if_pos h78]
  rw [hf];unfold numsAt;simp only [if_pos h78];have hne : ((f : Int) == 78) = true := by rw [beq_iff_eq]; omega
  have HVS := hJz (rvalues g A c P bad w hR (fun l h => by have := hl l h; omega) hP (fun V hV => hE V hV.toRW));clear hf h78 hR hB hE hl;go_enter Tryz.func41, Tryz.ntmps41;go_wp2_with fail;refine HVS.out.mono ?_;rintro e w1 ⟨A2, c2, rfl, hown, ⟨A', c', hR1⟩, hC1⟩;have hB1 := HB.out.offG hC1 hgb;obtain ⟨cv, fv⟩ := hB1.gotV;have hbl1 := hB1.lt;have HB1 := hJz hB1;have HR1 := hJz hR1;have HC1 := hJz hC1;have HO := hJz hown;clear hown hR1 hC1 hB1 HVS;go_wp2_with fail;refine bodyPost_ret (v := .tuple #[]) (by simp [results, Tryz.results41, go_sem]) rfl ?_;refine ⟨rfl, _, A', c', HB1.out.putV (.slice A2 P.length c2), ⟨A2, c2, rfl, ?_⟩, HR1.out.offB (Chg.set (g := b) (row := none) 13 (.slice A2 P.length c2)) hgb (Nat.le_of_lt HB1.out.lt), HC1.out.toRW.trans (Chg.toBW (Chg.set (g := b) (row := none) 13 (.slice A2 P.length c2))) (.inl rfl)⟩;exact own_chg HO.out (Chg.set (g := b) (row := none) 13 (.slice A2 P.length c2)) (fun e => by have := (HO.out.lt _ e).1; omega) (fun b _ e => by cases e)
 ·have hne : ((f : Int) == 78) = false := by rw [beq_eq_false_iff_ne]; omega
  unfold numsAt;simp only [if_neg h78];have hf : fillP f P bad z = if (splD 46 (wordP P bad).1).length = (slotL f).length then ((((slotL f).zip (splD 46 (wordP P bad).1)).foldl putS (z, (wordP P bad).2.2)).1, (wordP P bad).2.1, (((slotL f).zip (splD 46 (wordP P bad).1)).foldl putS (z, (wordP P bad).2.2)).2) else (z, (wordP P bad).2.1, true) := by unfold fillP; rw [if_neg h78]
  rw [hf];have hwl := wordP_len P bad hl;have HSL := hJz (fun V hV => slotsR_any b f V hV);have HWD := hJz (fun A c V (h : RdS V g A c P bad) => rword g A c P bad V h);obtain ⟨x, P1, bd1, hx⟩ : ∃ x P1 bd1, wordP P bad = (x, P1, bd1) := ⟨_, _, _, rfl⟩;rw [hx] at HWD hwl ⊢;simp only at HWD hwl ⊢;have HXL := hJz hwl.1;obtain ⟨Q, hQ⟩ : ∃ Q, splD 46 x = Q := ⟨_, rfl⟩;have hQn : Q.length ≤ 10001 := by have := splD_len 46 x; rw [hQ] at this; omega
  have HQP : Hid (∀ y ∈ Q, y.length ≤ 10000) := hJz fun y hy => by
   rw [← hQ] at hy;have := splD_piece 46 x y hy;omega
  have HSP := hJz (fun V (h : Ev V) => wsplit 46 x V h (by omega));rw [hQ] at HSP;rw [hQ];clear hf h78 hx hwl hQ hR hB hE hl
  by_cases hlen : Q.length = (slotL f).length
  ·have hln : ((Q.length : Int) != ((slotL f).length : Int)) = false := by rw [hlen]; simp
   simp only [if_pos hlen];have HLEN := hJz hlen;have HLN := hJz hln;clear hlen hln;go_enter Tryz.func41, Tryz.ntmps41;go_wp2_with fail;refine (HSL.out w hbl).mono ?_;rintro e w1 ⟨⟨A3, cap3, rfl, hSR⟩, hb1⟩;have hR1 := HR.out.below hb1;have hB1 := HB.out.below hb1;have HW1 := hJz (HWD.out A c w1 hR1);have HC1 := hJz (Chg.of_below (g := g) (row := none) hb1);have HB1 := hJz hB1;have HS1 := hJz hSR;have HR1 := hJz hR1;clear hSR hb1 hR1 hB1 HSL HWD;go_wp2_with fail;refine HW1.out.mono ?_;rintro e w2 ⟨rfl, ⟨A4, c4, hR2⟩, hC2⟩;have hB2 := HB1.out.offG hC2 hgb;have hS2 := HS1.out.keepG HR1.out HB1.out hC2.toRW;have hC12 := HC1.out.trans hC2 (.inl rfl);have hE2 := HE.out w2 hC12.toRW;have HP2 := hJz (HSP.out w2 hE2);have HR2 := hJz hR2;have HB2 := hJz hB2;have HS2 := hJz hS2;have HC2 := hJz hC12;clear hR2 hC2 hB2 hS2 hC12 hE2 HW1 HS1 HC1 HB1 HR1;have hpt : S8 [46] = (⟨#[46]⟩ : ByteArray) := rfl;clear hpt;go_wp2_with fail;refine HP2.out.mono ?_;rintro e w3 ⟨rfl, rfl⟩;have hal := since_alloc (Below.refl _ w2) (.cells (strs Q).toArray 9);have hqx := heap_alloc_new w2 (.cells (strs Q).toArray 9);have hR3 := HR2.out.below hal;have hB3 := HB2.out.below hal;have hS3 := HS2.out.below hal;have hC3 := HC2.out.trans (Chg.of_below hal) (.inl rfl);obtain ⟨QB, hQB⟩ : ∃ QB, w2.heap.size = QB := ⟨_, rfl⟩;have hQBb : b < QB := by rw [← hQB]; exact HB2.out.lt
   obtain ⟨W6, hW6⟩ : ∃ W6, w2.alloc (.cells (strs Q).toArray 9) = W6 := ⟨_, rfl⟩;rw [hW6] at hqx hR3 hB3 hS3 hC3;rw [hQB] at hqx;have HW6 := hJz hW6;have HQB := hJz hQB;have HR3 := hJz hR3;have HB3 := hJz hB3;have HS3 := hJz hS3;have HC3 := hJz hC3;have HQX := hJz hqx;clear hal hqx hR3 hB3 hS3 hC3 hQB hW6 HP2 HR2 HB2 HS2 HC2;have hln := HLN.out;go_upto_region 6 with fail;rw [HW6.out, HQB.out];clear hln;go_wp2_with fail;go_loopw [8, 33] (fun _ iv wr => ∃ (j : Nat) (A5 : Option Addr) (c5 : Nat), j ≤ (slotL f).length ∧ iv = .int .i64 (j : Int) ∧ CB wr b ((((slotL f).zip Q).take j).foldl putS (z, bd1)).1 v ∧ RdS wr g A5 c5 P1 ((((slotL f).zip Q).take j).foldl putS (z, bd1)).2 ∧ Chg g (some b) W6 wr) (fun _ iv _ => (slotL f).length - (intOf iv).toNat)
   case atStart => exact ⟨0, A4, c4, by omega, rfl, HB3.out, HR3.out, Chg.refl _ _ _⟩
   case round =>
    obtain ⟨j, A5, c5, hj, rfl, hB5, hR5, hC5⟩ := hrel;have hj2 := slotL_twoW f
    by_cases hjl : j < (slotL f).length
    ·have hjl1 : (j : Int) < ((slotL f).length : Int) := by omega
     have hj0 : (0 : Int) ≤ (j : Int) := by omega
     have hjq : j < Q.length := by rw [HLEN.out]; exact hjl
     have hjq1 : (j : Int) < (Q.length : Int) := by omega
     have hzl : ((slotL f).zip Q).length = (slotL f).length := by rw [List.length_zip, HLEN.out, Nat.min_self]
     have hS5 := HS3.out.keepG HR3.out HB3.out hC5;have hQ5 : wr.heap[QB]? = some (.cells (strs Q).toArray 9 (0, 0)) := (hC5.block QB (Array.getElem?_eq_some_iff.1 HQX.out).1 (by omega) (fun e => by injection e with e; omega)).trans HQX.out;obtain ⟨b2, o2, rfl, c0, c1, cc⟩ := slots_at hS5.sl hjl
     have hTJ : (((slotL f).zip Q).take (j + 1)).foldl putS (z, bd1) = putS ((((slotL f).zip Q).take j).foldl putS (z, bd1)) ((slotL f)[j], Q[j]) := by
      rw [take_snoc _ j (by rw [hzl]; exact hjl), List.foldl_append, List.getElem_zip];rfl
     have hsl13 := (slotL_low f _ (List.getElem_mem hjl)).2;have hyl := HQP.out _ (List.getElem_mem hjq)
     have hqc : wr.cell? ⟨QB, j, none⟩ = some (.string (S8 Q[j])) := by
      rw [cell_of_row wr QB j _ _ (0, 0) hQ5];simp [strs, hjq]
     obtain ⟨s, hs⟩ : ∃ s, (slotL f)[j] = s := ⟨_, rfl⟩;obtain ⟨y, hy⟩ : ∃ y, Q[j] = y := ⟨_, rfl⟩;rw [hs] at c0 c1 cc hTJ hsl13;rw [hy] at hTJ hyl hqc;obtain ⟨z5, bd5, hq5⟩ : ∃ z5 bd5, (((slotL f).zip Q).take j).foldl putS (z, bd1) = (z5, bd5) := ⟨_, _, rfl⟩;rw [hq5] at hB5 hR5 hTJ;simp only at hB5 hR5;have hal := since_alloc (Below.refl _ wr) (.cells #[.pointer (sp b s), .int .i64 (sm s), .pointer (sq b s)] 79);have hbx := heap_alloc_new wr (.cells #[.pointer (sp b s), .int .i64 (sm s), .pointer (sq b s)] 79);obtain ⟨SZ, hSZ⟩ : ∃ SZ, wr.heap.size = SZ := ⟨_, rfl⟩;obtain ⟨WR, hWR⟩ : ∃ WR, wr.alloc (.cells #[.pointer (sp b s), .int .i64 (sm s), .pointer (sq b s)] 79) = WR := ⟨_, rfl⟩;have hBW := hB5.below hal;have hRW := hR5.below hal;have hQW := (hal.block QB (Array.getElem?_eq_some_iff.1 hQ5).1).trans hQ5;have hCW : Chg g (some b) W6 (wr.alloc (.cells #[.pointer (sp b s), .int .i64 (sm s), .pointer (sq b s)] 79)) := hC5.trans (Chg.of_below hal) (.inl rfl);have hSZg : b < SZ := by rw [← hSZ]; exact hB5.lt
     rw [hWR] at hbx hal hBW hRW hQW hCW;rw [hSZ] at hbx
     have HF9 : Hid (∀ V, Chg g (some b) WR V → V.cell? ⟨SZ, 0, none⟩ = some (.pointer (sp b s)) ∧ V.cell? ⟨SZ, 1, none⟩ = some (.int .i64 (sm s)) ∧ V.cell? ⟨SZ, 2, none⟩ = some (.pointer (sq b s)) ∧ SZ < V.heap.size ∧ V.cell? ⟨QB, j, none⟩ = some (.string (S8 y)) ∧ QB < V.heap.size) := hJz fun V hC => by
      have h1 := (hC.block SZ (Array.getElem?_eq_some_iff.1 hbx).1 (by omega) (fun e => by injection e with e; omega)).trans hbx;have h2 := (hC.block QB (Array.getElem?_eq_some_iff.1 hQW).1 (by omega) (fun e => by injection e with e; omega)).trans hQW;refine ⟨(cell_of_row V SZ 0 _ _ (0, 0) h1).trans rfl, (cell_of_row V SZ 1 _ _ (0, 0) h1).trans rfl, (cell_of_row V SZ 2 _ _ (0, 0) h1).trans rfl, (Array.getElem?_eq_some_iff.1 h1).1, ?_, (Array.getElem?_eq_some_iff.1 h2).1⟩;rw [cell_of_row V QB j _ _ (0, 0) h2, ← hy];simp [strs, hjq]
     have HWR := hJz hWR;have HSZ := hJz hSZ;have HTJ := hJz hTJ;have HBW := hJz hBW;have HRW := hJz hRW;have HCW := hJz hCW;have HS13 := hJz hsl13;have HYL := hJz hyl;have HEW : Hid (∀ V, Chg g (some b) WR V → Ev V) := hJz fun V hC => HE.out V (HC3.out.toRW.trans (hCW.trans hC (.inl rfl)) (.inl rfl));clear hzl hS5 hQ5 hTJ hsl13 hyl hs hy hq5 hal hbx hSZ hWR hBW hRW hQW hCW hB5 hR5 hC5 hSZg;go_upto_region 9 with fail;rw [HWR.out, HSZ.out];clear c0 c1 cc hqc;refine wp_region_held_drew (S := (fun V => Chg g (some b) WR V)) (by kernel_rfl) (by exact (Chg.of_below (Below.refl _ WR).drew)) (fun hHeld => ?_);refine tkI 0 38 rfl (by intro w hSw; obtain ⟨d0, d1, d2, dl, q0, ql⟩ := HF9.out _ (hSw); go_simp <;> with_reducible rfl) hHeld ?_; simp only [pqZ];refine tkI 1 39 rfl (by intro w hSw; obtain ⟨d0, d1, d2, dl, q0, ql⟩ := HF9.out _ (hSw); go_simp <;> with_reducible rfl) hHeld ?_; simp only [pqZ];refine tkI 2 40 rfl (by intro w hSw; obtain ⟨d0, d1, d2, dl, q0, ql⟩ := HF9.out _ (hSw); go_simp <;> with_reducible rfl) hHeld ?_; simp only [pqZ];refine tkI 3 41 rfl (by intro w hSw; obtain ⟨d0, d1, d2, dl, q0, ql⟩ := HF9.out _ (hSw); go_simp <;> with_reducible rfl) hHeld ?_; simp only [pqZ];refine tkI 4 42 rfl (by intro w hSw; obtain ⟨d0, d1, d2, dl, q0, ql⟩ := HF9.out _ (hSw); go_simp <;> with_reducible rfl) hHeld ?_; simp only [pqZ];refine tkI 5 43 rfl (by intro w hSw; obtain ⟨d0, d1, d2, dl, q0, ql⟩ := HF9.out _ (hSw); go_simp <;> with_reducible rfl) hHeld ?_; simp only [pqZ];refine rdZ 6 44 rfl (by kernel_rfl) (fun K hK => ?_)
     go_simp
     refine (rvalue g A5 c5 P1 bd5 y _ (HRW.out.below (Below.refl _ WR).drew) (by have := HYL.out; omega) (HEW.out _ hHeld)).mono ?_;rintro e y1 ⟨rfl, hR6, hC6⟩;have hKeep : Chg g (some b) WR y1 := hHeld.trans hC6.toRW (.inl rfl);have hB6 := (HBW.out.below (Below.refl _ WR).drew).offG hC6 hgb;clear hC6;go_wp2_with fail;refine hK.out _ _ (by (try dsimp only); exact hKeep) (fun hHeld => ?_); clear hK K hKeep; try simp only [pqZ]
     refine rdZ 7 45 rfl (by kernel_rfl) (fun K hK => ?_)
     go_simp
     have hCp := hHeld;refine (put_any b z5 v s (valP y).1 y1 hB6 HS13.out).mono ?_;rintro e y2 ⟨rfl, hB7, hC7⟩;have hKeep : Chg g (some b) WR y2 := hCp.trans hC7.toBW (.inl rfl);have hR7 := hR6.offB hC7 hgb (Nat.le_of_lt hB6.lt);clear hC7;go_wp2_with fail;refine hK.out _ _ (by (try dsimp only); exact hKeep) (fun hHeld => ?_); clear hK K hKeep; try simp only [pqZ]
     refine wpAnyH_done (by kernel_rfl) ?_ _;go_wp2_with fail;go_roundw
     case rel =>
      refine ⟨j + 1, A5, c5, by omega, by go_num, ?_, ?_, HCW.out.trans hHeld (.inl rfl)⟩
      ·rw [HTJ.out]; exact hB7
      ·rw [HTJ.out]; exact hR7
     case measure => simp [intOf]; omega
    ·obtain rfl : j = (slotL f).length := by omega
     have hzl : ((slotL f).zip Q).length = (slotL f).length := by rw [List.length_zip, HLEN.out, Nat.min_self]
     rw [List.take_of_length_le (by rw [hzl]; exact Nat.le_refl _)] at hB5 hR5;have HB5 := hJz hB5;have HR5 := hJz hR5;have HC5 := hJz hC5;clear hzl hB5 hR5 hC5;go_wp2_with fail
     go_end0
     exact ⟨rfl, v, A5, c5, HB5.out, rfl, HR5.out, HC3.out.toRW.trans HC5.out (.inl rfl)⟩
  ·have hln : ((Q.length : Int) != ((slotL f).length : Int)) = true := by rw [bne_iff_ne]; omega
   simp only [if_neg hlen];have HLN := hJz hln;clear hlen hln;go_enter Tryz.func41, Tryz.ntmps41;go_wp2_with fail;refine (HSL.out w hbl).mono ?_;rintro e w1 ⟨⟨A3, cap3, rfl, hSR⟩, hb1⟩;have hR1 := HR.out.below hb1;have hB1 := HB.out.below hb1;have HW1 := hJz (HWD.out A c w1 hR1);have HC1 := hJz (Chg.of_below (g := g) (row := none) hb1);have HB1 := hJz hB1;have HS1 := hJz hSR;have HR1 := hJz hR1;clear hSR hb1 hR1 hB1 HSL HWD;go_wp2_with fail;refine HW1.out.mono ?_;rintro e w2 ⟨rfl, ⟨A4, c4, hR2⟩, hC2⟩;have hB2 := HB1.out.offG hC2 hgb;have hS2 := HS1.out.keepG HR1.out HB1.out hC2.toRW;have hC12 := HC1.out.trans hC2 (.inl rfl);have hE2 := HE.out w2 hC12.toRW;have HP2 := hJz (HSP.out w2 hE2);have HR2 := hJz hR2;have HB2 := hJz hB2;have HS2 := hJz hS2;have HC2 := hJz hC12;clear hR2 hC2 hB2 hS2 hC12 hE2 HW1 HS1 HC1 HB1 HR1;have hpt : S8 [46] = (⟨#[46]⟩ : ByteArray) := rfl;clear hpt;go_wp2_with fail;refine HP2.out.mono ?_;rintro e w3 ⟨rfl, rfl⟩;have hal := since_alloc (Below.refl _ w2) (.cells (strs Q).toArray 9);have hqx := heap_alloc_new w2 (.cells (strs Q).toArray 9);have hR3 := HR2.out.below hal;have hB3 := HB2.out.below hal;have hS3 := HS2.out.below hal;have hC3 := HC2.out.trans (Chg.of_below hal) (.inl rfl);obtain ⟨QB, hQB⟩ : ∃ QB, w2.heap.size = QB := ⟨_, rfl⟩;have hQBb : b < QB := by rw [← hQB]; exact HB2.out.lt
   obtain ⟨W6, hW6⟩ : ∃ W6, w2.alloc (.cells (strs Q).toArray 9) = W6 := ⟨_, rfl⟩;rw [hW6] at hqx hR3 hB3 hS3 hC3;rw [hQB] at hqx;have HW6 := hJz hW6;have HQB := hJz hQB;have HR3 := hJz hR3;have HB3 := hJz hB3;have HS3 := hJz hS3;have HC3 := hJz hC3;have HQX := hJz hqx;clear hal hqx hR3 hB3 hS3 hC3 hQB hW6 HP2 HR2 HB2 HS2 HC2;have hln := HLN.out;have k1 : W6.cell? ⟨g, 1, none⟩ = some (.bool bd1) := (cell_of_row W6 g 1 _ _ (0, 0) HR3.out.blk).trans rfl;have f1 : W6.frozen? ⟨g, 1, none⟩ = false := by simp [World.frozen?, HR3.out.blk]
   have gl1 := HR3.out.lt;go_upto_region 4 with fail;rw [HW6.out, HQB.out];go_wp2_with fail;refine bodyPost_ret (v := .tuple #[]) (by simp [results, Tryz.results41, go_sem]) rfl ?_;exact ⟨rfl, v, A4, c4, HB3.out.offG (Chg.set (g := g) (row := none) 1 (.bool true)) hgb, rfl, HR3.out.set, HC3.out.toRW.trans (Chg.set (g := g) (row := none) 1 (.bool true)).toRW (.inl rfl)⟩
end
end Go.Proofs.YtpmnjojednbnpaaGreatDoor
