import Derived.Test.YtpmnjojednbnpaaGreatDoorWf28
set_option maxHeartbeats 16000000
set_option maxRecDepth 100000
set_option linter.unusedVariables false
set_option linter.unusedSimpArgs false
namespace Go.Proofs.YtpmnjojednbnpaaGreatDoor
open Go.ChangeShapes Go.WideShapes Go.ChangeAt Go.RowKit
section
theorem rparseD_b (l : List UInt8) (w : World) (hl : l.length ≤ 900) (d0 : Dz) (hm : docR l = some d0) (hm2 : endR (some d0) = none) (hp : d0.P ≠ []) :
  Calls Tryz.prog 11 #[.string (S8 l)] w fun e w' => DPR w' e (docC l) ∧ Below w.heap.size w w' := by
 have hb0 := since_alloc (Below.refl _ w) (.cells #[.int .i64 0, .int .i64 0, .int .i64 0, .int .i64 0, .int .i64 0, .int .i64 0, .int .i64 0, .int .i64 0, .int .i64 0, .int .i64 0, .int .i64 0, .int .i64 0, .int .i64 0, .slice none 0 0] 26);have hx0 := heap_alloc_new w (.cells #[.int .i64 0, .int .i64 0, .int .i64 0, .int .i64 0, .int .i64 0, .int .i64 0, .int .i64 0, .int .i64 0, .int .i64 0, .int .i64 0, .int .i64 0, .int .i64 0, .int .i64 0, .slice none 0 0] 26);have hsz0 := World.size_alloc w (.cells #[.int .i64 0, .int .i64 0, .int .i64 0, .int .i64 0, .int .i64 0, .int .i64 0, .int .i64 0, .int .i64 0, .int .i64 0, .int .i64 0, .int .i64 0, .int .i64 0, .int .i64 0, .slice none 0 0] 26);obtain ⟨q0, hq0⟩ : ∃ q0, w.heap.size = q0 := ⟨_, rfl⟩;obtain ⟨V0, hV0⟩ : ∃ V0, w.alloc (.cells #[.int .i64 0, .int .i64 0, .int .i64 0, .int .i64 0, .int .i64 0, .int .i64 0, .int .i64 0, .int .i64 0, .int .i64 0, .int .i64 0, .int .i64 0, .int .i64 0, .int .i64 0, .slice none 0 0] 26) = V0 := ⟨_, rfl⟩;rw [hV0] at hb0 hx0 hsz0;rw [hq0] at hb0 hx0 hsz0 ⊢;have HV0 := hJz hV0;have HQ0 := hJz hq0;have HSP := hJz (rsplit40 l V0 (by omega))
 obtain ⟨x, P, hP⟩ : ∃ x P, splD 32 l = x :: P := by
  cases h : splD 32 l with
  | nil => exact absurd h (splD_ne 32 l)
  | cons x P => exact ⟨x, P, rfl⟩
 have hPl : (x :: P).length ≤ 901 := by
  have := splD_len 32 l;rw [hP] at this;omega
 have hpc : ∀ y ∈ x :: P, y.length ≤ 900 := fun y hy => by
  have := splD_piece 32 l y (by rw [hP]; exact hy);omega
 obtain ⟨R, hR⟩ : ∃ R, restR (fldL (opB x)) 0 ⟨[opB x, 0, 0, 0, 0, 0, 0, 0, 0, 0, 0, 0, 0], [], P⟩ = R := ⟨_, rfl⟩;have HDC : Hid (docC l = endR R) := hJz (by rw [docC_rest hP, hR])
 have hdr9 : docR l = R := by
  unfold docR;rw [hP];exact hR
 have HMO : Hid (R = some d0) := hJz (by rw [← hdr9, hm]);have HMP := hJz hm2;have HPP := hJz hp;clear hm hm2 hdr9 hp;have HRR := hJz hR;rw [hP] at HSP;have hopr := opB_range x;have HPC := hJz hpc;have HB0 := hJz hb0;have HX0 := hJz hx0;have HSZ0 := hJz hsz0;obtain ⟨P0, hP0⟩ : ∃ P0, x :: P = P0 := ⟨_, rfl⟩;have HP0 := hJz hP0;have hP0n : 0 < P0.length := by rw [← hP0]; simp
 rw [hP0] at HSP hPl HPC;clear hb0 hx0 hsz0 hq0 hV0 hP hR hpc hP0;go_enter Tryz.func11, Tryz.ntmps11;go_upto_region 1 with fail;rw [HV0.out, HQ0.out];go_wp2_with fail;refine HSP.out.mono ?_;rintro e v1 ⟨⟨A0, c0, rfl, hown0⟩, hb1⟩;rw [HSZ0.out] at hown0;obtain ⟨b0, o0, rfl, hcw⟩ := Sl.of_own hown0 (List.ne_nil_of_length_pos (by rw [strs_len]; exact hP0n));have hcw1 : ∀ j (h : j < P0.length), v1.cell? ⟨b0, o0 + j, none⟩ = some (.string (S8 P0[j])) := fun j h => hcw j _ (strs_at h);have hbl0 : b0 < v1.heap.size := World.block_lt_of_cell? _ _ (hcw1 0 hP0n);have hx1 := (hb1.block q0 (by rw [HSZ0.out]; omega)).trans HX0.out;have hB1 := HB0.out.trans (hb1.mono (by rw [HSZ0.out]; omega));have hsz1 := hb1.size;rw [HSZ0.out] at hsz1;have hal := since_alloc (Below.refl _ v1) (.cells (strs opsW).toArray 9);have hz2 := World.size_alloc v1 (.cells (strs opsW).toArray 9);have hcn : ∀ k, k < 31 → (v1.alloc (.cells (strs opsW).toArray 9)).cell? ⟨v1.heap.size, k, none⟩ = some (.string (S8 (opsW.getD k []))) := fun k hk => ops_cell v1 hk;obtain ⟨nb, hnb⟩ : ∃ nb, v1.heap.size = nb := ⟨_, rfl⟩;obtain ⟨V2, hV2⟩ : ∃ V2, v1.alloc (.cells (strs opsW).toArray 9) = V2 := ⟨_, rfl⟩;have HN2 := hJz (rnames40 v1);rw [hV2] at hal hz2 hcn HN2;rw [hnb] at hal hz2 hcn HN2 hbl0 hsz1;have hal3 := since_alloc (Below.refl _ V2) (.cells #[.int .i64 0, .int .i64 0, .int .i64 0, .int .i64 0, .int .i64 0, .int .i64 0, .int .i64 0, .int .i64 0, .int .i64 0, .int .i64 0, .int .i64 0, .int .i64 0, .int .i64 0, .slice none 0 0] 26);have hx3 := heap_alloc_new V2 (.cells #[.int .i64 0, .int .i64 0, .int .i64 0, .int .i64 0, .int .i64 0, .int .i64 0, .int .i64 0, .int .i64 0, .int .i64 0, .int .i64 0, .int .i64 0, .int .i64 0, .int .i64 0, .slice none 0 0] 26);have hz3 := World.size_alloc V2 (.cells #[.int .i64 0, .int .i64 0, .int .i64 0, .int .i64 0, .int .i64 0, .int .i64 0, .int .i64 0, .int .i64 0, .int .i64 0, .int .i64 0, .int .i64 0, .int .i64 0, .int .i64 0, .slice none 0 0] 26);obtain ⟨V3, hV3⟩ : ∃ V3, V2.alloc (.cells #[.int .i64 0, .int .i64 0, .int .i64 0, .int .i64 0, .int .i64 0, .int .i64 0, .int .i64 0, .int .i64 0, .int .i64 0, .int .i64 0, .int .i64 0, .int .i64 0, .int .i64 0, .slice none 0 0] 26) = V3 := ⟨_, rfl⟩;rw [hV3] at hal3 hx3 hz3;rw [hz2] at hal3 hx3 hz3;obtain ⟨b, hb⟩ : ∃ b, nb + 1 = b := ⟨_, rfl⟩;rw [hb] at hz2 hal3 hx3 hz3;have hcb3 : CB V3 b [0, 0, 0, 0, 0, 0, 0, 0, 0, 0, 0, 0, 0] (.slice none 0 0) := ⟨hx3, rfl⟩
 have HK3 : Hid (∀ V, Chg b none V3 V → (∀ j (h : j < P0.length), V.cell? ⟨b0, o0 + j, none⟩ = some (.string (S8 P0[j]))) ∧ b0 < V.heap.size ∧ (∀ k, k < 31 → V.cell? ⟨nb, k, none⟩ = some (.string (S8 (opsW.getD k [])))) ∧ nb < V.heap.size ∧ V.heap[q0]? = some (.cells #[.int .i64 0, .int .i64 0, .int .i64 0, .int .i64 0, .int .i64 0, .int .i64 0, .int .i64 0, .int .i64 0, .int .i64 0, .int .i64 0, .int .i64 0, .int .i64 0, .int .i64 0, .slice none 0 0] 26 (0, 0)) ∧ Below q0 w V) := hJz fun V hC => by
  have hs := hC.size;have hbk : ∀ k, k < b → V.heap[k]? = V3.heap[k]? := fun k hk => hC.block k (by omega) (by omega) (fun e => by cases e)
  refine ⟨fun j h => ?_, by omega, fun k hk => ?_, by omega, ?_, ?_⟩
  ·rw [World.cell?_of_block (a := ⟨b0, o0 + j, none⟩) (hbk b0 (by omega))];have h1 := (hal.mono (Nat.le_refl _)).cell (p := ⟨b0, o0 + j, none⟩) hbl0;have h2 := hal3.cell (p := ⟨b0, o0 + j, none⟩) (by show b0 < b; omega);rw [h2, h1];exact hcw1 j h
  ·rw [World.cell?_of_block (a := ⟨nb, k, none⟩) (hbk nb (by omega))];have h2 := hal3.cell (p := ⟨nb, k, none⟩) (by show nb < b; omega);rw [h2];exact hcn k hk
  ·rw [hbk q0 (by omega), hal3.block q0 (by omega), hal.block q0 (by omega)];exact hx1
  ·exact ((hB1.trans (hal.mono (by omega))).trans (hal3.mono (by omega))).trans (hC.below (by omega) (by omega) (fun b2 e => by cases e))
 have HBG : Hid (q0 < b ∧ V3.heap.size = b + 1) := hJz ⟨by omega, hz3⟩;have HV2 := hJz hV2;have HV3 := hJz hV3;have HNB := hJz hnb;have HBE := hJz hb;have HZ2 := hJz hz2;have HCB3 := hJz hcb3;clear hown0 hcw hcw1 hbl0 hx1 hB1 hsz1 hal hz2 hcn hnb hV2 hal3 hx3 hz3 hV3 hb hcb3 hb1 HSP HB0 HX0 HSZ0;go_wp2_with fail;refine HN2.out.mono ?_;rintro e v2 ⟨rfl, rfl⟩;go_upto_region 4 with fail;rw [HV3.out, HZ2.out];go_wp2_with fail;go_loopw [7] (fun iv wr => ∃ (k : Nat), k ≤ 31 ∧ iv = .int .i64 (k : Int) ∧ CB wr b [opK x k, 0, 0, 0, 0, 0, 0, 0, 0, 0, 0, 0, 0] (.slice none 0 0) ∧ Chg b none V3 wr) (fun iv _ => 31 - (intOf iv).toNat)
 case atStart => exact ⟨0, by omega, rfl, by
  have e : opK x 0 = 0 := by unfold opK; split <;> omega
  rw [e]
  exact HCB3.out, Chg.refl _ _ _⟩
 case round =>
  clear HCB3;obtain ⟨k, hk, rfl, hcb, hC⟩ := hrel
  by_cases hkl : k < 31
  ·have hk1 : (k : Int) < 31 := by omega
   have hk0 : (0 : Int) ≤ (k : Int) := by omega
   obtain ⟨f1, f2, f3, f4, _, _⟩ := HK3.out wr hC;have hP0I : (0 : Int) < (P0.length : Int) := by omega
   have g1 := f1 0 hP0n
   have hP0x : P0[0] = x := by
    have h := HP0.out;subst h;rfl
   rw [hP0x, Nat.add_zero] at g1;have g3 := f3 k hkl;have HF7 : Hid (∀ V, Below wr.heap.size wr V → V.cell? ⟨b0, o0, none⟩ = some (.string (S8 x)) ∧ b0 < V.heap.size ∧ V.cell? ⟨nb, k, none⟩ = some (.string (S8 (opsW.getD k []))) ∧ nb < V.heap.size) := hJz fun V hV => ⟨(hV.cell (p := ⟨b0, o0, none⟩) f2).trans g1, Nat.lt_of_lt_of_le f2 hV.size, (hV.cell (p := ⟨nb, k, none⟩) f4).trans g3, Nat.lt_of_lt_of_le f4 hV.size⟩;have hno := names_op hkl x;obtain ⟨nk, hnk⟩ : ∃ nk, opsW.getD k [] = nk := ⟨_, rfl⟩;rw [hnk] at hno HF7;have hcbd := hcb.below (Below.refl _ wr).drew;have hCd : Chg b none V3 wr.drew := hC.trans (Chg.of_below (Below.refl _ wr).drew) (.inl rfl);have HCBD := hJz hcbd;have HCD := hJz hCd;clear f1 f2 f3 f4 g1 g3 hcb hC hnk hcbd hCd
   by_cases hon : opB x = (k : Int) + 1
   ·have hse : ((S8 nk).toList == (S8 x).toList) = true := by rw [hno.2 hon]; exact (Lib.bytes_beq_iff _ _).mpr rfl
    have HON := hJz hon;clear hno hon hP0x;go_upto_region 7 with fail;refine wp_region_held_drew (S := (fun V => Below wr.heap.size wr V)) (by kernel_rfl) (by exact (Below.refl _ wr).drew) (fun hHeld => ?_);refine tkI 0 29 rfl (by intro w hSw; obtain ⟨p0, pl, p1, pm⟩ := HF7.out _ (hSw); go_simp <;> with_reducible rfl) hHeld ?_; simp only [pqZ];refine tkI 1 30 rfl (by intro w hSw; obtain ⟨p0, pl, p1, pm⟩ := HF7.out _ (hSw); go_simp <;> with_reducible rfl) hHeld ?_; simp only [pqZ];refine tkI 2 31 rfl (by intro w hSw; obtain ⟨p0, pl, p1, pm⟩ := HF7.out _ (hSw); go_simp <;> with_reducible rfl) hHeld ?_; simp only [pqZ];refine tkI 3 32 rfl (by intro w hSw; obtain ⟨p0, pl, p1, pm⟩ := HF7.out _ (hSw); go_simp <;> with_reducible rfl) hHeld ?_; simp only [pqZ];refine tkI 4 33 rfl (by intro w hSw; obtain ⟨p0, pl, p1, pm⟩ := HF7.out _ (hSw); go_simp <;> with_reducible rfl) hHeld ?_; simp only [pqZ];refine tkI 5 34 rfl (by intro w hSw; obtain ⟨p0, pl, p1, pm⟩ := HF7.out _ (hSw); go_simp <;> with_reducible rfl) hHeld ?_; simp only [pqZ];refine tkI 6 35 rfl (by intro w hSw; obtain ⟨p0, pl, p1, pm⟩ := HF7.out _ (hSw); go_simp <;> with_reducible rfl) hHeld ?_; simp only [pqZ];refine tkI 7 36 rfl (by intro w hSw; obtain ⟨p0, pl, p1, pm⟩ := HF7.out _ (hSw); go_simp <;> with_reducible rfl) hHeld ?_; simp only [pqZ];refine wpAnyH_done (by kernel_rfl) ?_ _;have hcbd := HCBD.out;have hCd := HCD.out;clear HCBD HCD hHeld;generalize wr.drew = wd at *;obtain ⟨c0, f0⟩ := hcbd.got (o := 0) (by decide);have hbl := hcbd.lt;have hw1 : IntKind.i64.wrap ((k : Int) + 1) = (k : Int) + 1 := IntWalk.i64_in _ (by omega);have HCB9 := hJz (hcbd.put (o := 0) (by decide) ((k : Int) + 1));have HC9 : Hid (Chg b none V3 (wd.setCell ⟨b, 0, none⟩ (.int .i64 ((k : Int) + 1)))) := hJz (hCd.trans (Chg.set (g := b) (row := none) 0 _) (.inl rfl));clear hcbd hCd;go_wp2_with fail;go_roundw
    case rel =>
     refine ⟨k + 1, by omega, by go_num, ?_, HC9.out⟩
     have e : opK x (k + 1) = (k : Int) + 1 := by
      have := HON.out;unfold opK;rw [if_pos (by omega)];exact this
     rw [e];exact HCB9.out
    case measure => simp [intOf]; omega
   ·have hse : ((S8 nk).toList == (S8 x).toList) = false := (Lib.bytes_beq_false_iff _ _).mpr (fun e => hon (hno.1 (S8_inj e)));have HON := hJz hon;clear hno hon hP0x;go_upto_region 7 with fail;refine wp_region_held_drew (S := (fun V => Below wr.heap.size wr V)) (by kernel_rfl) (by exact (Below.refl _ wr).drew) (fun hHeld => ?_);refine tkI 0 29 rfl (by intro w hSw; obtain ⟨p0, pl, p1, pm⟩ := HF7.out _ (hSw); go_simp <;> with_reducible rfl) hHeld ?_; simp only [pqZ];refine tkI 1 30 rfl (by intro w hSw; obtain ⟨p0, pl, p1, pm⟩ := HF7.out _ (hSw); go_simp <;> with_reducible rfl) hHeld ?_; simp only [pqZ];refine tkI 2 31 rfl (by intro w hSw; obtain ⟨p0, pl, p1, pm⟩ := HF7.out _ (hSw); go_simp <;> with_reducible rfl) hHeld ?_; simp only [pqZ];refine tkI 3 32 rfl (by intro w hSw; obtain ⟨p0, pl, p1, pm⟩ := HF7.out _ (hSw); go_simp <;> with_reducible rfl) hHeld ?_; simp only [pqZ];refine tkI 4 33 rfl (by intro w hSw; obtain ⟨p0, pl, p1, pm⟩ := HF7.out _ (hSw); go_simp <;> with_reducible rfl) hHeld ?_; simp only [pqZ];refine tkI 5 34 rfl (by intro w hSw; obtain ⟨p0, pl, p1, pm⟩ := HF7.out _ (hSw); go_simp <;> with_reducible rfl) hHeld ?_; simp only [pqZ];refine tkI 6 35 rfl (by intro w hSw; obtain ⟨p0, pl, p1, pm⟩ := HF7.out _ (hSw); go_simp <;> with_reducible rfl) hHeld ?_; simp only [pqZ];refine tkI 7 36 rfl (by intro w hSw; obtain ⟨p0, pl, p1, pm⟩ := HF7.out _ (hSw); go_simp <;> with_reducible rfl) hHeld ?_; simp only [pqZ];refine wpAnyH_done (by kernel_rfl) ?_ _;have hcbd := HCBD.out;have hCd := HCD.out;clear HCBD HCD hHeld;generalize wr.drew = wd at *;have HCB9 := hJz hcbd;have HC9 := hJz hCd;clear hcbd hCd;go_wp2_with fail;go_roundw
    case rel =>
     refine ⟨k + 1, by omega, by go_num, ?_, HC9.out⟩
     have e : opK x (k + 1) = opK x k := by
      have := HON.out;unfold opK
      by_cases h : opB x ≤ (k : Int)
      ·rw [if_pos h, if_pos (by omega)]
      ·rw [if_neg h, if_neg (by omega)]
     rw [e];exact HCB9.out
    case measure => simp [intOf]; omega
  ·obtain rfl : k = 31 := by omega
   have e : opK x 31 = opB x := by unfold opK; rw [if_pos (by omega)]
   rw [e] at hcb;obtain ⟨c0, f0⟩ := hcb.got (o := 0) (by decide);simp only [List.getD_cons_zero] at c0;have hbl := hcb.lt;have HF := hJz (rfld_any (opB x) wr);have HMEM := hJz (fldL_memW (opB x))
   have HAT : Hid (∀ k, (h : k < (bs8 (fldL (opB x))).size) → ∃ h2 : k < (fldL (opB x)).length, ((bs8 (fldL (opB x)))[k]'h).toNat = (fldL (opB x))[k]) := hJz fun k h => by
    have h2 : k < (fldL (opB x)).length := by rw [bs8_size] at h; exact h
    exact ⟨h2, bs8_at h2 (by have := fldL_low (opB x) _ (List.getElem_mem h2); omega)⟩
   have HL5 := fldL_fiveW (opB x);have HLN := hJz (fldL_ok (opB x)).2;have HCB := hJz hcb;have HC := hJz hC;clear hcb hC e;go_wp2_with fail;refine HF.out.mono ?_;rintro e v4 ⟨rfl, hb4⟩;have hcb4 := HCB.out.below hb4;have hC4 : Chg b none V3 v4 := HC.out.trans (Chg.of_below hb4) (.inl rfl);have HK4 := hJz (fun V (hV : Chg b none v4 V) => HK3.out V (hC4.trans hV (.inl rfl)));have hlt4 := hcb4.lt;obtain ⟨W1, hW1⟩ : ∃ W1, v4.heap.size = W1 := ⟨_, rfl⟩;have HW1G : Hid (b < W1) := hJz (by omega);have HW1E : Hid (W1 = v4.heap.size ∧ V3.heap.size ≤ W1) := hJz ⟨hW1.symm, by have := hC4.size; omega⟩;obtain ⟨op, hop⟩ : ∃ op, opB x = op := ⟨_, rfl⟩;rw [hop] at HMEM HAT HL5 HRR hcb4 hopr HLN ⊢;obtain ⟨L, hL⟩ : ∃ L, fldL op = L := ⟨_, rfl⟩;rw [hL] at HMEM HAT HL5 HRR HLN ⊢;have hsz := bs8_size L;obtain ⟨s, hs⟩ : ∃ s, bs8 L = s := ⟨_, rfl⟩;rw [hs] at HAT hsz ⊢;have HSZ := hJz hsz;have hs5 : s.size ≤ 5 := by omega
   have HCB4 := hJz hcb4;have HC4 := hJz (Chg.refl b none v4);have hws : IntKind.i64.wrap ((s.size : Int) + 1) = (s.size : Int) + 1 := IntWalk.i64_in _ (by omega);clear hb4 hcb4 hC4 hlt4 hW1 hop hL hs hsz c0 f0 hbl HF HCB HC;go_wp2_with fail;go_loopw [9, 10, 11] (fun nv av iv wr => ∃ (k at_ : Nat) (d : Dz) (AN : Option Addr) (cN : Nat), k ≤ s.size + 1 ∧ iv = .int .i64 (k : Int) ∧ nv = .slice AN d.nums.length cN ∧ av = .int .i64 (at_ : Int) ∧ at_ + d.P.length = P0.length ∧ P0.drop at_ = d.P ∧ restR L k d = R ∧ CB wr b d.z (.slice none 0 0) ∧ wr.ownsRow W1 2 1 (.slice AN (d.nums).length cN) (d.nums).length (ints .i64 (d.nums)) ∧ d.nums.length ≤ at_ ∧ (k ≤ s.size → at_ = k + 1) ∧ Chg b none v4 wr) (fun _ _ iv _ => s.size + 1 - (intOf iv).toNat)
   case atStart => exact ⟨0, 1, ⟨[op, 0, 0, 0, 0, 0, 0, 0, 0, 0, 0, 0, 0], [], P⟩, none, 0, by omega, rfl, rfl, rfl, by rw [← HP0.out]; simp; omega, by rw [← HP0.out]; rfl, HRR.out, HCB4.out, own_nil _ _ _, by simp, fun _ => rfl, HC4.out⟩
   case round =>
    clear HCB4 HC4 HRR;obtain ⟨k, at_, d, AN, cN, hk, rfl, rfl, rfl, hat, hdr, hrr, hcb, hown, hnl, hak, hC⟩ := hrel;obtain ⟨dz, dn, dP⟩ := d;have HAK := hJz hak;clear hak;simp only at hat hdr hrr hcb hown hnl ⊢
    by_cases hkl : k < s.size + 1
    ·have hkI : (k : Int) < (s.size : Int) + 1 := by omega
     obtain ⟨F, hF⟩ : ∃ F, letR L k = F := ⟨_, rfl⟩;have HFE := hJz hF;have HKL : Hid (k ≤ L.length) := hJz (by have := HSZ.out; omega)
     have HMM : Hid (F = 66 ∨ F = 77 ∨ F = 85 ∨ F = 79 ∨ F = 73 ∨ F = 65 ∨ F = 84 ∨ F = 68 ∨ F = 81 ∨ F = 80 ∨ F = 78) := hJz (by
      rw [← hF]
      cases k with
      | zero => exact .inl rfl
      | succ j =>
       have hj : j < L.length := by have := HSZ.out; omega
       rw [letR_at hj]
       exact .inr (HMEM.out _ (List.getElem_mem hj)))
     have HF66 : Hid (F = 66 → k = 0) := hJz fun h => by
      rw [← hF] at h
      cases k with
      | zero => rfl
      | succ j =>
       have hj : j < L.length := by have := HSZ.out; omega
       rw [letR_at hj] at h;have := HMEM.out _ (List.getElem_mem hj);omega
     clear hF;go_upto_if 51 with fail;go_cut [12] (fun kv wx => kv = .int .u8 (F : Int) ∧ wr = wx)
     case first =>
      by_cases hk0 : k = 0
      ·have e1 : ¬ (0 : Int) < (k : Int) := by omega
       have e2 : Hid (F = 66) := hJz (by rw [← HFE.out, hk0]; rfl);have e3 : ¬ 0 < k := by omega
       clear hk0 hrr hcb hown hC hat hdr hnl;go_wp2_with fail;go_meet
       case rel => exact ⟨by rw [e2.out]; rfl, rfl⟩
      ·have e1 : (0 : Int) < (k : Int) := by omega
       obtain ⟨j, hj⟩ : ∃ j, k = j + 1 := ⟨k - 1, by omega⟩;have hjs : j < s.size := by omega
       have hjI : (j : Int) < (s.size : Int) := by omega
       have hj0 : (0 : Int) ≤ (j : Int) := by omega
       have hwj : IntKind.i64.wrap ((k : Int) - 1) = (j : Int) := by rw [IntWalk.i64_in _ (by omega)]; omega
       obtain ⟨h2, hat8⟩ := HAT.out j hjs
       have hv : ((s[j].toNat : Nat) : Int) = (F : Int) := by
        rw [hat8, ← HFE.out, hj, letR_at h2]
       clear hat8 h2 hj hk0 hrr hcb hown hC hat hdr hnl;go_wp2_with fail;go_meet
       case rel => exact ⟨rfl, rfl⟩
     case rest =>
      obtain ⟨rfl, rfl⟩ := hcut
      by_cases h78 : F = 78
      ·subst h78;have HRQ := hJz hrr;have HCB0 := hJz hcb;have HOW0 := hJz hown;have HC0 := hJz hC;have HDR0 := hJz hdr;have HAT0 := hJz hat
       have HNL0 := hJz hnl;have hdl : dP.length ≤ 901 := by omega
       clear hrr hcb hown hC hdr hat hnl;go_wp2_with fail;go_loopw [9, 10, 13, 14] (fun nv av _ _ wr => ∃ (m : Nat) (ns N9 : List Int) (AN : Option Addr) (cN : Nat), m ≤ dP.length ∧ numsD (dP.take m) = some ns ∧ N9 = dn ++ ns ∧ nv = .slice AN N9.length cN ∧ av = .int .i64 ((at_ + m : Nat) : Int) ∧ CB wr b dz (.slice none 0 0) ∧ wr.ownsRow W1 2 1 (.slice AN (N9).length cN) (N9).length (ints .i64 (N9)) ∧ ns.length = m ∧ Chg b none v4 wr) (fun _ av _ _ _ => P0.length - (intOf av).toNat)
       case atStart => exact ⟨0, [], dn, AN, cN, by omega, rfl, by simp, rfl, rfl, HCB0.out, HOW0.out, rfl, HC0.out⟩
       case round =>
        clear HCB0 HOW0 HC0;obtain ⟨m, ns, N9, AN, cN, hm, hns, hN9, rfl, rfl, hcb, hown, hnsl, hC⟩ := hrel;have hN9l : N9.length = dn.length + m := by rw [hN9, List.length_append, hnsl]
        have HN9 := hJz hN9;have HNSL := hJz hnsl;have HN9L := hJz hN9l;obtain ⟨am, ham⟩ : ∃ am, at_ + m = am := ⟨_, rfl⟩;rw [ham];have HAM := hJz ham;have hatm := HAT0.out
        by_cases hml : m < dP.length
        ·have haI : (am : Int) < (P0.length : Int) := by omega
         have ha0 : (0 : Int) ≤ (am : Int) := by omega
         have hat1 : am < P0.length := by omega
         obtain ⟨w0, hw0⟩ : ∃ w0, dP[m] = w0 := ⟨_, rfl⟩
         have hpw : P0[am] = w0 := by
          have h := HDR0.out;subst h;rw [← hw0, List.getElem_drop]
          congr 1
          omega
         have hwl : w0.length ≤ 900 := HPC.out w0 (by rw [← hpw]; exact List.getElem_mem hat1);have htk : dP.take (m + 1) = dP.take m ++ [w0] := by rw [take_snoc dP m hml, hw0]
         have HCW : Hid (∀ V, Chg b none v4 V → V.cell? ⟨b0, o0 + am, none⟩ = some (.string (S8 w0)) ∧ b0 < V.heap.size) := hJz fun V hV => by
          obtain ⟨f1, f2, _⟩ := HK4.out V hV;have := f1 am hat1;rw [hpw] at this;exact ⟨this, f2⟩
         have hn1 := fun V => rnumb40 w0 V (by omega);unfold numA at hn1;obtain ⟨D1, hD1⟩ : ∃ D, numD w0 = D := ⟨_, rfl⟩;rw [hD1] at hn1;obtain ⟨nv, hnv⟩ : ∃ a, D1.getD 0 = a := ⟨_, rfl⟩;obtain ⟨okn, hokn⟩ : ∃ a, D1.isSome = a := ⟨_, rfl⟩;rw [hnv, hokn] at hn1;have HN1 := hJz hn1;have HD1 := hJz (And.intro hD1 (And.intro hnv hokn));have HTK := hJz htk;have HNS := hJz hns;have HW0 := hJz hw0;have HCB0 := hJz hcb;have HOW0 := hJz hown;have HC0 := hJz hC;have hdnl : N9.length ≤ 100000 := by have := HNL0.out; omega
         obtain ⟨pw, pl⟩ := HCW.out wr hC;clear ham hpw hwl hw0 htk hns hcb hown hC hn1 hD1 hnv hokn hat1 hatm hN9 hnsl hN9l;go_wp2_with fail;refine (HN1.out _).mono ?_;rintro e y1 ⟨rfl, hb1⟩;have hC1 := HC0.out.trans (Chg.of_below hb1) (.inl rfl);have hcb1 := HCB0.out.below hb1;have hown1 := own_below HOW0.out hb1;clear pw pl
         cases okn with
         | false =>
          have hrn : R = none := by
           have h := HRQ.out
           have e : numD w0 = none := by
            rw [HD1.out.1];have := HD1.out.2.2
            cases h0 : D1 with
            | none => rfl
            | some n => rw [h0] at this; cases this
           have en : numsD dP = none := by
            have e2 : dP = dP.take m ++ (w0 :: dP.drop (m + 1)) := by rw [← HW0.out, ← List.drop_eq_getElem_cons hml, List.take_append_drop]
            rw [e2, numsD_app, HNS.out, numsD, e]
           rw [← h, restG_nums HKL.out HFE.out, en];rfl
          exfalso
          have hN9 : R = none := by rw [hrn]
          rw [HMO.out] at hN9
          cases hN9
         | true =>
          have hnd : numD w0 = some nv := by
           rw [HD1.out.1];have h1 := HD1.out.2.2;have h2 := HD1.out.2.1
           cases h0 : D1 with
           | none => rw [h0] at h1; cases h1
           | some n => rw [h0] at h2; rw [← h2]; rfl
          have HNS2 : Hid (numsD (dP.take (m + 1)) = some (ns ++ [nv])) := hJz (by rw [HTK.out, numsD_app, HNS.out, numsD, hnd]; rfl);have HO6 := hJz (hown1.alloc (.cells #[.int .i64 nv] 2));have hsz6 : W1 ≤ y1.heap.size := by have h1 := hC1.size; have := HW1E.out; omega
          have HZ6 : Hid (W1 ≤ y1.heap.size + 1) := hJz (by omega);have HSZ6 := hJz hsz6;have HCB1 := hJz hcb1;have HC1 := hJz hC1;clear hnd hb1 hC1 hcb1 hown1 hsz6
          go_wp2_with (first
           | (at_builtin; refine wpList_app rfl (.tmp 73) (.tmp 75) rfl ENw rfl rfl HO6.out (m := 1) (news := [.int .i64 nv]) rfl (Sl.new_ _ _ _) (fun u hu => by simp only [List.mem_cons, List.not_mem_nil, or_false] at hu; subst hu; rfl) (by unfold maxLen; omega) (by omega) (by simp only [World.size_alloc]; exact HZ6.out) ?_; intro A7 c7 w7 own7 hg7 hb7)
           | fail)
          have hal := since_alloc (Below.refl _ y1) (.cells #[.int .i64 nv] 2);have hbb : Below W1 y1 w7 := (hal.mono HSZ6.out).trans hb7;have hcb7 := HCB1.out.belowW hbb HW1G.out;have hC7 : Chg b none v4 w7 := HC1.out.thenW hbb (by have := HW1E.out; omega);go_roundw
          case rel =>
           have hm2 := HAM.out;refine ⟨m + 1, ns ++ [nv], N9 ++ [nv], A7, c7, by omega, HNS2.out, by rw [HN9.out, List.append_assoc], by rw [List.length_append]; rfl, by rw [show at_ + (m + 1) = am + 1 by omega]; go_num, hcb7, ?_, by rw [List.length_append, HNSL.out]; rfl, hC7⟩;rw [List.length_append];have e2 : ints .i64 (N9 ++ [nv]) = ints .i64 N9 ++ [.int .i64 nv] := by simp [ints]
           rw [e2];exact own7
          case measure => simp [intOf]; omega
        ·obtain rfl : m = dP.length := by omega
         have haI : ¬ ((am : Int) < (P0.length : Int)) := by omega
         have hdi : decide ((am : Int) < (P0.length : Int)) = false := decide_eq_false haI;have han : P0.length ≤ am := by omega
         rw [List.take_length] at hns
         have HRS : Hid (restR L (k + 1) ⟨dz, N9, []⟩ = R) := hJz (by
          have h := HRQ.out;rw [restG_nums HKL.out HFE.out, hns] at h;rw [hN9]
          exact h)
         have HDE : Hid (P0.drop am = []) := hJz (by rw [List.drop_eq_nil_iff]; omega);have HAE : Hid (am + ([] : List (List UInt8)).length = P0.length) := hJz (by simp; omega);have HNE : Hid (N9.length ≤ am) := hJz (by have := HNL0.out; omega);have HCB0 := hJz hcb;have HOW0 := hJz hown;have HC0 := hJz hC;clear ham hns hcb hown hC hatm haI hN9 hnsl hN9l;go_wp2_with fail;go_roundw
         case rel => exact ⟨k + 1, am, ⟨dz, N9, []⟩, AN, cN, by omega, by go_num, rfl, rfl, HAE.out, HDE.out, HRS.out, HCB0.out, HOW0.out, HNE.out, fun h => by have := letR_last HLN.out HKL.out HFE.out; have := HSZ.out; omega, HC0.out⟩
         case measure => simp [intOf]; omega
      ·have hn8 : ((F : Int) == 78) = false := by rw [beq_eq_false_iff_ne]; omega
       have HRQ := hJz hrr;have HCB0 := hJz hcb;have HOW0 := hJz hown;have HC0 := hJz hC;clear hrr hcb hown hC
       cases dP with
       | nil =>
        have d2 : decide ((P0.length : Int) ≤ (at_ : Int)) = true := decide_eq_true (by simp only [List.length_nil] at hat; omega);have d2n : P0.length ≤ at_ := by have h := hat; simp only [List.length_nil] at h; omega
        have hrn : R = none := by rw [← HRQ.out, restG_nil HKL.out HFE.out h78]
        exfalso
        have hN9 : R = none := by rw [hrn]
        rw [HMO.out] at hN9
        cases hN9
       | cons w0 r =>
        have hat1 : at_ < P0.length := by simp only [List.length_cons] at hat; omega
        have hw0 : P0[at_] = w0 := by
         rw [List.drop_eq_getElem_cons hat1] at hdr;injection hdr
        have hdr1 : P0.drop (at_ + 1) = r := by
         rw [List.drop_eq_getElem_cons hat1] at hdr;injection hdr
        have hwl : w0.length ≤ 900 := HPC.out w0 (by rw [← hw0]; exact List.getElem_mem hat1);have hatb : at_ ≤ 901 := by omega
        have d2 : decide ((P0.length : Int) ≤ (at_ : Int)) = false := decide_eq_false (by omega);have d2n : ¬ P0.length ≤ at_ := by omega
        have haI : (at_ : Int) < (P0.length : Int) := by omega
        have ha0 : (0 : Int) ≤ (at_ : Int) := by omega
        have HCW : Hid (∀ V, Chg b none v4 V → V.cell? ⟨b0, o0 + at_, none⟩ = some (.string (S8 w0)) ∧ b0 < V.heap.size) := hJz fun V hV => by
         obtain ⟨f1, f2, _⟩ := HK4.out V hV;have := f1 at_ hat1;rw [hw0] at this;exact ⟨this, f2⟩
        have hn1 := fun V => rnumb40 w0 V (by omega);unfold numA at hn1;obtain ⟨D1, hD1⟩ : ∃ D, numD w0 = D := ⟨_, rfl⟩;rw [hD1] at hn1;obtain ⟨nv, hnv⟩ : ∃ a, D1.getD 0 = a := ⟨_, rfl⟩;obtain ⟨okn, hokn⟩ : ∃ a, D1.isSome = a := ⟨_, rfl⟩;rw [hnv, hokn] at hn1;have HN1 := hJz hn1;have hu1 := fun V => runitb40 w0 V (by omega);obtain ⟨D2, hD2⟩ : ∃ D, unitD w0 = D := ⟨_, rfl⟩;rw [hD2] at hu1;obtain ⟨isu, hisu⟩ : ∃ a, D2.isSome = a := ⟨_, rfl⟩;rw [hisu] at hu1;have HU1 := hJz hu1;have HD1 := hJz (And.intro hD1 (And.intro hnv hokn));have HD2 := hJz (And.intro hD2 hisu);have HDR := hJz hdr1;have HAT2 : Hid (at_ + 1 + r.length = P0.length) := hJz (by simp only [List.length_cons] at hat; omega);obtain ⟨pw, pl⟩ := HCW.out wr HC0.out;clear hdr1 hdr hat hat1 hw0 hn1 hu1 hD1 hnv hokn hD2 hisu hwl;go_wp2_with fail;refine (HN1.out _).mono ?_;rintro e y1 ⟨rfl, hb1⟩;have hC1 := HC0.out.trans (Chg.of_below hb1) (.inl rfl);obtain ⟨pw1, pl1⟩ := HCW.out y1 hC1;have HC1 := hJz hC1;have HB1 := hJz hb1;clear pw pl hC1 hb1;go_wp2_with fail;refine (HU1.out _).mono ?_;rintro e y2 ⟨⟨ux, uy, rfl, huu⟩, hb2⟩;have HUU := hJz huu;have hal := since_alloc (Below.refl _ y2) (.cells #[.int .i64 ux, .int .i64 uy] 23);have hux := heap_alloc_new y2 (.cells #[.int .i64 ux, .int .i64 uy] 23);have hb3 := since_step (since_step HB1.out hb2) hal;have hC3 := HC0.out.trans (Chg.of_below hb3) (.inl rfl);have hcb3 := HCB0.out.below hb3;have hown3 := own_below HOW0.out hb3;obtain ⟨ub, hub⟩ : ∃ ub, y2.heap.size = ub := ⟨_, rfl⟩;obtain ⟨Y3, hY3⟩ : ∃ Y3, y2.alloc (.cells #[.int .i64 ux, .int .i64 uy] 23) = Y3 := ⟨_, rfl⟩;rw [hub] at hux;rw [hY3] at hux hC3 hcb3 hown3;have HUB := hJz hub;have HY3 := hJz hY3;have HC3 := hJz hC3;have HCB3 := hJz hcb3;have HOW3 := hJz hown3;have HUX := hJz hux;clear pw1 pl1 huu hal hb3 hub hY3 hC3 hcb3 hown3 hb2 HC0 HCB0 HOW0 HC1 HB1 hux;go_upto_region 29 with fail;rw [HY3.out, HUB.out];clear d2 d2n haI ha0;go_cut [105] (fun c wx => c = .bool (decide (F = 85 ∨ F = 79)) ∧ Y3 = wx)
        case first =>
         by_cases h85 : F = 85
         ·have e1 : ((F : Int) == 85) = true := by rw [h85]; rfl
          have HD := hJz (decide_eq_true (p := F = 85 ∨ F = 79) (.inl h85));have h85 := hJz h85;go_wp2_with fail;go_meet
          case rel => exact ⟨congrArg Value.bool HD.out.symm, rfl⟩
         ·have e1 : ((F : Int) == 85) = false := by rw [beq_eq_false_iff_ne]; omega
          by_cases h79 : F = 79
          ·have e2 : ((F : Int) == 79) = true := by rw [h79]; rfl
           have HD := hJz (decide_eq_true (p := F = 85 ∨ F = 79) (.inr h79));have h79 := hJz h79;clear h85;go_wp2_with fail;go_meet
           case rel => exact ⟨congrArg Value.bool HD.out.symm, rfl⟩
          ·have e2 : ((F : Int) == 79) = false := by rw [beq_eq_false_iff_ne]; omega
           have HD := hJz (decide_eq_false (p := F = 85 ∨ F = 79) (fun h => h.elim h85 h79));clear h85 h79;go_wp2_with fail;go_meet
           case rel => exact ⟨congrArg Value.bool HD.out.symm, rfl⟩
        case rest =>
         obtain ⟨rfl, rfl⟩ := hcut;obtain ⟨uB, huB⟩ : ∃ uB, decide (F = 85 ∨ F = 79) = uB := ⟨_, rfl⟩;rw [huB];have HUBB := hJz huB;clear huB;go_upto_if 105 with fail;go_cut [16] (fun okv wx => okv = .bool (if uB = true then isu else okn) ∧ Y3 = wx)
         case first =>
          cases uB with
          | true =>
           go_wp2_with fail;go_meet
           case rel => exact ⟨rfl, rfl⟩
          | false =>
           go_wp2_with fail;go_meet
           case rel => exact ⟨rfl, rfl⟩
         case rest =>
         obtain ⟨rfl, rfl⟩ := hcut;obtain ⟨okk, hokk⟩ : ∃ okk, (if uB = true then isu else okn) = okk := ⟨_, rfl⟩
         have hokd : (if F = 85 ∨ F = 79 then D2.isSome else D1.isSome) = okk := by
          have h := HUBB.out;rw [HD1.out.2.2, HD2.out.2, ← hokk]
          by_cases hU : F = 85 ∨ F = 79
          ·rw [decide_eq_true hU] at h;rw [if_pos hU, if_pos h.symm]
          ·rw [decide_eq_false hU] at h;rw [if_neg hU, if_neg (by rw [← h]; decide)]
         rw [hokk];clear hokk
         cases okk with
         | false =>
          have hrn : R = none := by
           rw [← HRQ.out, restG_word HKL.out HFE.out HF66.out h78]
           have ew : wordD (slotG F).length w0 = none := by
            unfold wordD
            by_cases hU : F = 85 ∨ F = 79
            ·have e2 : (slotG F).length = 2 := by rcases hU with rfl | rfl <;> rfl
             rw [if_pos hU] at hokd;rw [if_pos e2, HD2.out.1]
             cases h0 : D2 with
             | none => rfl
             | some n => rw [h0] at hokd; cases hokd
            ·have e2 : ¬ (slotG F).length = 2 := slotG_one HMM.out hU h78;rw [if_neg hU] at hokd;rw [if_neg e2, HD1.out.1]
             cases h0 : D1 with
             | none => rfl
             | some n => rw [h0] at hokd; cases hokd
           rw [ew];rfl
          exfalso
          have hN9 : R = none := by rw [hrn]
          rw [HMO.out] at hN9
          cases hN9
         | true =>
          have HOK := hJz hokd;clear hokd;go_upto_if 113 with fail
          by_cases hf0 : F = 66
          ·subst hf0
           have hrs : restR L (k + 1) ⟨dz.set 1 nv, dn, r⟩ = R := by
            have h := HRQ.out;rw [restG_word HKL.out HFE.out HF66.out (by decide)] at h
            have ew : wordD (slotG 66).length w0 = some [nv] := by
             show wordD 1 w0 = _
             have e : numD w0 = some nv := by
              rw [HD1.out.1];have h1 := HOK.out;have h2 := HD1.out.2.1;rw [if_neg (by decide)] at h1
              cases h0 : D1 with
              | none => rw [h0] at h1; cases h1
              | some n => rw [h0] at h2; rw [← h2]; rfl
             unfold wordD;rw [if_neg (by decide), e];rfl
            rw [ew] at h;exact h
           have HRS := hJz hrs;have hbl3 := HCB3.out.lt;obtain ⟨cz, fz⟩ := HCB3.out.got (o := 1) (by decide);have HCB4 := hJz (HCB3.out.put (o := 1) (by decide) nv);have HOW4 := hJz (own_chg HOW3.out (Chg.set (g := b) (row := none) 1 (.int .i64 nv)) (fun e => by have := (HOW3.out.lt _ e).1; have := HW1G.out; omega) (fun b2 _ e => by cases e));have HC4 : Hid (Chg b none v4 (Y3.setCell ⟨b, 1, none⟩ (.int .i64 nv))) := hJz (HC3.out.trans (Chg.set (g := b) (row := none) 1 _) (.inl rfl));clear hrs;go_wp2_with fail;go_roundw
           case rel => exact ⟨k + 1, at_ + 1, ⟨dz.set 1 nv, dn, r⟩, AN, cN, by omega, by go_num, rfl, by go_num, HAT2.out, HDR.out, HRS.out, HCB4.out, HOW4.out, by show dn.length ≤ at_ + 1; omega, fun h => by have := HAK.out; omega, HC4.out⟩
           case measure => first | (simp [intOf]; done) | (simp [intOf]; omega)
          ·have ef0 : ((F : Int) == 66) = false := by rw [beq_eq_false_iff_ne]; omega
           go_upto_if 117 with fail
           by_cases hf1 : F = 77
           ·subst hf1
            have hrs : restR L (k + 1) ⟨dz.set 2 nv, dn, r⟩ = R := by
             have h := HRQ.out;rw [restG_word HKL.out HFE.out HF66.out (by decide)] at h
             have ew : wordD (slotG 77).length w0 = some [nv] := by
              show wordD 1 w0 = _
              have e : numD w0 = some nv := by
               rw [HD1.out.1];have h1 := HOK.out;have h2 := HD1.out.2.1;rw [if_neg (by decide)] at h1
               cases h0 : D1 with
               | none => rw [h0] at h1; cases h1
               | some n => rw [h0] at h2; rw [← h2]; rfl
              unfold wordD;rw [if_neg (by decide), e];rfl
             rw [ew] at h;exact h
            have HRS := hJz hrs;have hbl3 := HCB3.out.lt;obtain ⟨cz, fz⟩ := HCB3.out.got (o := 2) (by decide);have HCB4 := hJz (HCB3.out.put (o := 2) (by decide) nv);have HOW4 := hJz (own_chg HOW3.out (Chg.set (g := b) (row := none) 2 (.int .i64 nv)) (fun e => by have := (HOW3.out.lt _ e).1; have := HW1G.out; omega) (fun b2 _ e => by cases e));have HC4 : Hid (Chg b none v4 (Y3.setCell ⟨b, 2, none⟩ (.int .i64 nv))) := hJz (HC3.out.trans (Chg.set (g := b) (row := none) 2 _) (.inl rfl));clear hrs;go_wp2_with fail;go_roundw
            case rel => exact ⟨k + 1, at_ + 1, ⟨dz.set 2 nv, dn, r⟩, AN, cN, by omega, by go_num, rfl, by go_num, HAT2.out, HDR.out, HRS.out, HCB4.out, HOW4.out, by show dn.length ≤ at_ + 1; omega, fun h => by have := HAK.out; omega, HC4.out⟩
            case measure => first | (simp [intOf]; done) | (simp [intOf]; omega)
           ·have ef1 : ((F : Int) == 77) = false := by rw [beq_eq_false_iff_ne]; omega
            go_upto_if 121 with fail
            by_cases hf2 : F = 85
            ·subst hf2
             have hrs : restR L (k + 1) ⟨(dz.set 3 ux).set 4 uy, dn, r⟩ = R := by
              have h := HRQ.out;rw [restG_word HKL.out HFE.out HF66.out (by decide)] at h
              have ew : wordD (slotG 85).length w0 = some [ux, uy] := by
               show wordD 2 w0 = _
               have e : unitD w0 = some (ux, uy) := by
                rw [HD2.out.1];have h1 := HOK.out;rw [if_pos (by decide)] at h1
                cases h0 : D2 with
                | none => rw [h0] at h1; cases h1
                | some n => rw [HUU.out n h0]
               unfold wordD;rw [if_pos rfl, e];rfl
              rw [ew] at h;exact h
             have HRS := hJz hrs;have hbl3 := HCB3.out.lt;obtain ⟨cz, fz⟩ := HCB3.out.got (o := 3) (by decide);obtain ⟨cz2, fz2⟩ := HCB3.out.got (o := 4) (by decide);have u0 : Y3.cell? ⟨ub, 0, none⟩ = some (.int .i64 ux) := (cell_of_row Y3 ub 0 _ _ (0, 0) HUX.out).trans rfl;have u1 : Y3.cell? ⟨ub, 0 + 1, none⟩ = some (.int .i64 uy) := (cell_of_row Y3 ub 1 _ _ (0, 0) HUX.out).trans rfl;have ul := (Array.getElem?_eq_some_iff.1 HUX.out).1;have HCB4 := hJz ((HCB3.out.put (o := 3) (by decide) ux).put (o := 4) (by decide) uy);have HOW4 := hJz (own_chg (own_chg HOW3.out (Chg.set (g := b) (row := none) 3 (.int .i64 ux)) (fun e => by have := (HOW3.out.lt _ e).1; have := HW1G.out; omega) (fun b2 _ e => by cases e)) (Chg.set (g := b) (row := none) 4 (.int .i64 uy)) (fun e => by have := (HOW3.out.lt _ e).1; have := HW1G.out; omega) (fun b2 _ e => by cases e));have HC4 : Hid (Chg b none v4 ((Y3.setCell ⟨b, 3, none⟩ (.int .i64 ux)).setCell ⟨b, 4, none⟩ (.int .i64 uy))) := hJz ((HC3.out.trans (Chg.set (g := b) (row := none) 3 _) (.inl rfl)).trans (Chg.set (g := b) (row := none) 4 _) (.inl rfl));have hcs := @cell_set;clear hrs;go_wp2_with fail;go_roundw
             case rel => exact ⟨k + 1, at_ + 1, ⟨(dz.set 3 ux).set 4 uy, dn, r⟩, AN, cN, by omega, by go_num, rfl, by go_num, HAT2.out, HDR.out, HRS.out, HCB4.out, HOW4.out, by show dn.length ≤ at_ + 1; omega, fun h => by have := HAK.out; omega, HC4.out⟩
             case measure => first | (simp [intOf]; done) | (simp [intOf]; omega)
            ·have ef2 : ((F : Int) == 85) = false := by rw [beq_eq_false_iff_ne]; omega
             go_upto_if 125 with fail
             by_cases hf3 : F = 79
             ·subst hf3
              have hrs : restR L (k + 1) ⟨(dz.set 5 ux).set 6 uy, dn, r⟩ = R := by
               have h := HRQ.out;rw [restG_word HKL.out HFE.out HF66.out (by decide)] at h
               have ew : wordD (slotG 79).length w0 = some [ux, uy] := by
                show wordD 2 w0 = _
                have e : unitD w0 = some (ux, uy) := by
                 rw [HD2.out.1];have h1 := HOK.out;rw [if_pos (by decide)] at h1
                 cases h0 : D2 with
                 | none => rw [h0] at h1; cases h1
                 | some n => rw [HUU.out n h0]
                unfold wordD;rw [if_pos rfl, e];rfl
               rw [ew] at h;exact h
              have HRS := hJz hrs;have hbl3 := HCB3.out.lt;obtain ⟨cz, fz⟩ := HCB3.out.got (o := 5) (by decide);obtain ⟨cz2, fz2⟩ := HCB3.out.got (o := 6) (by decide);have u0 : Y3.cell? ⟨ub, 0, none⟩ = some (.int .i64 ux) := (cell_of_row Y3 ub 0 _ _ (0, 0) HUX.out).trans rfl;have u1 : Y3.cell? ⟨ub, 0 + 1, none⟩ = some (.int .i64 uy) := (cell_of_row Y3 ub 1 _ _ (0, 0) HUX.out).trans rfl;have ul := (Array.getElem?_eq_some_iff.1 HUX.out).1;have HCB4 := hJz ((HCB3.out.put (o := 5) (by decide) ux).put (o := 6) (by decide) uy);have HOW4 := hJz (own_chg (own_chg HOW3.out (Chg.set (g := b) (row := none) 5 (.int .i64 ux)) (fun e => by have := (HOW3.out.lt _ e).1; have := HW1G.out; omega) (fun b2 _ e => by cases e)) (Chg.set (g := b) (row := none) 6 (.int .i64 uy)) (fun e => by have := (HOW3.out.lt _ e).1; have := HW1G.out; omega) (fun b2 _ e => by cases e));have HC4 : Hid (Chg b none v4 ((Y3.setCell ⟨b, 5, none⟩ (.int .i64 ux)).setCell ⟨b, 6, none⟩ (.int .i64 uy))) := hJz ((HC3.out.trans (Chg.set (g := b) (row := none) 5 _) (.inl rfl)).trans (Chg.set (g := b) (row := none) 6 _) (.inl rfl));have hcs := @cell_set;clear hrs;go_wp2_with fail;go_roundw
              case rel => exact ⟨k + 1, at_ + 1, ⟨(dz.set 5 ux).set 6 uy, dn, r⟩, AN, cN, by omega, by go_num, rfl, by go_num, HAT2.out, HDR.out, HRS.out, HCB4.out, HOW4.out, by show dn.length ≤ at_ + 1; omega, fun h => by have := HAK.out; omega, HC4.out⟩
              case measure => first | (simp [intOf]; done) | (simp [intOf]; omega)
             ·have ef3 : ((F : Int) == 79) = false := by rw [beq_eq_false_iff_ne]; omega
              go_upto_if 129 with fail
              by_cases hf4 : F = 73
              ·subst hf4
               have hrs : restR L (k + 1) ⟨dz.set 7 nv, dn, r⟩ = R := by
                have h := HRQ.out;rw [restG_word HKL.out HFE.out HF66.out (by decide)] at h
                have ew : wordD (slotG 73).length w0 = some [nv] := by
                 show wordD 1 w0 = _
                 have e : numD w0 = some nv := by
                  rw [HD1.out.1];have h1 := HOK.out;have h2 := HD1.out.2.1;rw [if_neg (by decide)] at h1
                  cases h0 : D1 with
                  | none => rw [h0] at h1; cases h1
                  | some n => rw [h0] at h2; rw [← h2]; rfl
                 unfold wordD;rw [if_neg (by decide), e];rfl
                rw [ew] at h;exact h
               have HRS := hJz hrs;have hbl3 := HCB3.out.lt;obtain ⟨cz, fz⟩ := HCB3.out.got (o := 7) (by decide);have HCB4 := hJz (HCB3.out.put (o := 7) (by decide) nv);have HOW4 := hJz (own_chg HOW3.out (Chg.set (g := b) (row := none) 7 (.int .i64 nv)) (fun e => by have := (HOW3.out.lt _ e).1; have := HW1G.out; omega) (fun b2 _ e => by cases e));have HC4 : Hid (Chg b none v4 (Y3.setCell ⟨b, 7, none⟩ (.int .i64 nv))) := hJz (HC3.out.trans (Chg.set (g := b) (row := none) 7 _) (.inl rfl));clear hrs;go_wp2_with fail;go_roundw
               case rel => exact ⟨k + 1, at_ + 1, ⟨dz.set 7 nv, dn, r⟩, AN, cN, by omega, by go_num, rfl, by go_num, HAT2.out, HDR.out, HRS.out, HCB4.out, HOW4.out, by show dn.length ≤ at_ + 1; omega, fun h => by have := HAK.out; omega, HC4.out⟩
               case measure => first | (simp [intOf]; done) | (simp [intOf]; omega)
              ·have ef4 : ((F : Int) == 73) = false := by rw [beq_eq_false_iff_ne]; omega
               go_upto_if 133 with fail
               by_cases hf5 : F = 65
               ·subst hf5
                have hrs : restR L (k + 1) ⟨dz.set 8 nv, dn, r⟩ = R := by
                 have h := HRQ.out;rw [restG_word HKL.out HFE.out HF66.out (by decide)] at h
                 have ew : wordD (slotG 65).length w0 = some [nv] := by
                  show wordD 1 w0 = _
                  have e : numD w0 = some nv := by
                   rw [HD1.out.1];have h1 := HOK.out;have h2 := HD1.out.2.1;rw [if_neg (by decide)] at h1
                   cases h0 : D1 with
                   | none => rw [h0] at h1; cases h1
                   | some n => rw [h0] at h2; rw [← h2]; rfl
                  unfold wordD;rw [if_neg (by decide), e];rfl
                 rw [ew] at h;exact h
                have HRS := hJz hrs;have hbl3 := HCB3.out.lt;obtain ⟨cz, fz⟩ := HCB3.out.got (o := 8) (by decide);have HCB4 := hJz (HCB3.out.put (o := 8) (by decide) nv);have HOW4 := hJz (own_chg HOW3.out (Chg.set (g := b) (row := none) 8 (.int .i64 nv)) (fun e => by have := (HOW3.out.lt _ e).1; have := HW1G.out; omega) (fun b2 _ e => by cases e));have HC4 : Hid (Chg b none v4 (Y3.setCell ⟨b, 8, none⟩ (.int .i64 nv))) := hJz (HC3.out.trans (Chg.set (g := b) (row := none) 8 _) (.inl rfl));clear hrs;go_wp2_with fail;go_roundw
                case rel => exact ⟨k + 1, at_ + 1, ⟨dz.set 8 nv, dn, r⟩, AN, cN, by omega, by go_num, rfl, by go_num, HAT2.out, HDR.out, HRS.out, HCB4.out, HOW4.out, by show dn.length ≤ at_ + 1; omega, fun h => by have := HAK.out; omega, HC4.out⟩
                case measure => first | (simp [intOf]; done) | (simp [intOf]; omega)
               ·have ef5 : ((F : Int) == 65) = false := by rw [beq_eq_false_iff_ne]; omega
                go_upto_if 137 with fail
                by_cases hf6 : F = 84
                ·subst hf6
                 have hrs : restR L (k + 1) ⟨dz.set 9 nv, dn, r⟩ = R := by
                  have h := HRQ.out;rw [restG_word HKL.out HFE.out HF66.out (by decide)] at h
                  have ew : wordD (slotG 84).length w0 = some [nv] := by
                   show wordD 1 w0 = _
                   have e : numD w0 = some nv := by
                    rw [HD1.out.1];have h1 := HOK.out;have h2 := HD1.out.2.1;rw [if_neg (by decide)] at h1
                    cases h0 : D1 with
                    | none => rw [h0] at h1; cases h1
                    | some n => rw [h0] at h2; rw [← h2]; rfl
                   unfold wordD;rw [if_neg (by decide), e];rfl
                  rw [ew] at h;exact h
                 have HRS := hJz hrs;have hbl3 := HCB3.out.lt;obtain ⟨cz, fz⟩ := HCB3.out.got (o := 9) (by decide);have HCB4 := hJz (HCB3.out.put (o := 9) (by decide) nv);have HOW4 := hJz (own_chg HOW3.out (Chg.set (g := b) (row := none) 9 (.int .i64 nv)) (fun e => by have := (HOW3.out.lt _ e).1; have := HW1G.out; omega) (fun b2 _ e => by cases e));have HC4 : Hid (Chg b none v4 (Y3.setCell ⟨b, 9, none⟩ (.int .i64 nv))) := hJz (HC3.out.trans (Chg.set (g := b) (row := none) 9 _) (.inl rfl));clear hrs;go_wp2_with fail;go_roundw
                 case rel => exact ⟨k + 1, at_ + 1, ⟨dz.set 9 nv, dn, r⟩, AN, cN, by omega, by go_num, rfl, by go_num, HAT2.out, HDR.out, HRS.out, HCB4.out, HOW4.out, by show dn.length ≤ at_ + 1; omega, fun h => by have := HAK.out; omega, HC4.out⟩
                 case measure => first | (simp [intOf]; done) | (simp [intOf]; omega)
                ·have ef6 : ((F : Int) == 84) = false := by rw [beq_eq_false_iff_ne]; omega
                 go_upto_if 141 with fail
                 by_cases hf7 : F = 68
                 ·subst hf7
                  have hrs : restR L (k + 1) ⟨dz.set 10 nv, dn, r⟩ = R := by
                   have h := HRQ.out;rw [restG_word HKL.out HFE.out HF66.out (by decide)] at h
                   have ew : wordD (slotG 68).length w0 = some [nv] := by
                    show wordD 1 w0 = _
                    have e : numD w0 = some nv := by
                     rw [HD1.out.1];have h1 := HOK.out;have h2 := HD1.out.2.1;rw [if_neg (by decide)] at h1
                     cases h0 : D1 with
                     | none => rw [h0] at h1; cases h1
                     | some n => rw [h0] at h2; rw [← h2]; rfl
                    unfold wordD;rw [if_neg (by decide), e];rfl
                   rw [ew] at h;exact h
                  have HRS := hJz hrs;have hbl3 := HCB3.out.lt;obtain ⟨cz, fz⟩ := HCB3.out.got (o := 10) (by decide);have HCB4 := hJz (HCB3.out.put (o := 10) (by decide) nv);have HOW4 := hJz (own_chg HOW3.out (Chg.set (g := b) (row := none) 10 (.int .i64 nv)) (fun e => by have := (HOW3.out.lt _ e).1; have := HW1G.out; omega) (fun b2 _ e => by cases e));have HC4 : Hid (Chg b none v4 (Y3.setCell ⟨b, 10, none⟩ (.int .i64 nv))) := hJz (HC3.out.trans (Chg.set (g := b) (row := none) 10 _) (.inl rfl));clear hrs;go_wp2_with fail;go_roundw
                  case rel => exact ⟨k + 1, at_ + 1, ⟨dz.set 10 nv, dn, r⟩, AN, cN, by omega, by go_num, rfl, by go_num, HAT2.out, HDR.out, HRS.out, HCB4.out, HOW4.out, by show dn.length ≤ at_ + 1; omega, fun h => by have := HAK.out; omega, HC4.out⟩
                  case measure => first | (simp [intOf]; done) | (simp [intOf]; omega)
                 ·have ef7 : ((F : Int) == 68) = false := by rw [beq_eq_false_iff_ne]; omega
                  go_upto_if 145 with fail
                  by_cases hf8 : F = 81
                  ·subst hf8
                   have hrs : restR L (k + 1) ⟨dz.set 11 nv, dn, r⟩ = R := by
                    have h := HRQ.out;rw [restG_word HKL.out HFE.out HF66.out (by decide)] at h
                    have ew : wordD (slotG 81).length w0 = some [nv] := by
                     show wordD 1 w0 = _
                     have e : numD w0 = some nv := by
                      rw [HD1.out.1];have h1 := HOK.out;have h2 := HD1.out.2.1;rw [if_neg (by decide)] at h1
                      cases h0 : D1 with
                      | none => rw [h0] at h1; cases h1
                      | some n => rw [h0] at h2; rw [← h2]; rfl
                     unfold wordD;rw [if_neg (by decide), e];rfl
                    rw [ew] at h;exact h
                   have HRS := hJz hrs;have hbl3 := HCB3.out.lt;obtain ⟨cz, fz⟩ := HCB3.out.got (o := 11) (by decide);have HCB4 := hJz (HCB3.out.put (o := 11) (by decide) nv);have HOW4 := hJz (own_chg HOW3.out (Chg.set (g := b) (row := none) 11 (.int .i64 nv)) (fun e => by have := (HOW3.out.lt _ e).1; have := HW1G.out; omega) (fun b2 _ e => by cases e));have HC4 : Hid (Chg b none v4 (Y3.setCell ⟨b, 11, none⟩ (.int .i64 nv))) := hJz (HC3.out.trans (Chg.set (g := b) (row := none) 11 _) (.inl rfl));clear hrs;go_wp2_with fail;go_roundw
                   case rel => exact ⟨k + 1, at_ + 1, ⟨dz.set 11 nv, dn, r⟩, AN, cN, by omega, by go_num, rfl, by go_num, HAT2.out, HDR.out, HRS.out, HCB4.out, HOW4.out, by show dn.length ≤ at_ + 1; omega, fun h => by have := HAK.out; omega, HC4.out⟩
                   case measure => first | (simp [intOf]; done) | (simp [intOf]; omega)
                  ·have ef8 : ((F : Int) == 81) = false := by rw [beq_eq_false_iff_ne]; omega
                   go_upto_if 149 with fail
                   by_cases hf9 : F = 80
                   ·subst hf9
                    have hrs : restR L (k + 1) ⟨dz.set 12 nv, dn, r⟩ = R := by
                     have h := HRQ.out;rw [restG_word HKL.out HFE.out HF66.out (by decide)] at h
                     have ew : wordD (slotG 80).length w0 = some [nv] := by
                      show wordD 1 w0 = _
                      have e : numD w0 = some nv := by
                       rw [HD1.out.1];have h1 := HOK.out;have h2 := HD1.out.2.1;rw [if_neg (by decide)] at h1
                       cases h0 : D1 with
                       | none => rw [h0] at h1; cases h1
                       | some n => rw [h0] at h2; rw [← h2]; rfl
                      unfold wordD;rw [if_neg (by decide), e];rfl
                     rw [ew] at h;exact h
                    have HRS := hJz hrs;have hbl3 := HCB3.out.lt;obtain ⟨cz, fz⟩ := HCB3.out.got (o := 12) (by decide);have HCB4 := hJz (HCB3.out.put (o := 12) (by decide) nv);have HOW4 := hJz (own_chg HOW3.out (Chg.set (g := b) (row := none) 12 (.int .i64 nv)) (fun e => by have := (HOW3.out.lt _ e).1; have := HW1G.out; omega) (fun b2 _ e => by cases e));have HC4 : Hid (Chg b none v4 (Y3.setCell ⟨b, 12, none⟩ (.int .i64 nv))) := hJz (HC3.out.trans (Chg.set (g := b) (row := none) 12 _) (.inl rfl));clear hrs;go_wp2_with fail;go_roundw
                    case rel => exact ⟨k + 1, at_ + 1, ⟨dz.set 12 nv, dn, r⟩, AN, cN, by omega, by go_num, rfl, by go_num, HAT2.out, HDR.out, HRS.out, HCB4.out, HOW4.out, by show dn.length ≤ at_ + 1; omega, fun h => by have := HAK.out; omega, HC4.out⟩
                    case measure => first | (simp [intOf]; done) | (simp [intOf]; omega)
                   ·have ef9 : ((F : Int) == 80) = false := by rw [beq_eq_false_iff_ne]; omega
                    exfalso
                    have := HMM.out;omega

    ·obtain rfl : k = s.size + 1 := by omega
     have hrr : some (⟨dz, dn, dP⟩ : Dz) = R := by
      rw [HSZ.out, restG_end] at hrr;exact hrr
     obtain ⟨_, _, _, _, hxq, hBq⟩ := HK4.out wr hC;have hzlen := hcb.len
     obtain ⟨y0, y1, y2, y3, y4, y5, y6, y7, y8, y9, y10, y11, y12, hYS⟩ : ∃ y0 y1 y2 y3 y4 y5 y6 y7 y8 y9 y10 y11 y12, dz = [y0, y1, y2, y3, y4, y5, y6, y7, y8, y9, y10, y11, y12] := by
      match dz, hzlen with
      | [y0, y1, y2, y3, y4, y5, y6, y7, y8, y9, y10, y11, y12], _ => exact ⟨_, _, _, _, _, _, _, _, _, _, _, _, _, rfl⟩
     subst hYS;have hnl2 : dn.length ≤ 1000 := by omega
     obtain ⟨c13, f13⟩ := hcb.gotV;have hbl := hcb.lt;have hcbS := hcb.putV (.slice AN dn.length cN);have hownS := own_chg hown (Chg.set (g := b) (row := none) 13 (.slice AN dn.length cN)) (fun e => by have := (hown.lt _ e).1; have := HW1G.out; omega) (fun b2 _ e => by cases e);have hCS : Chg b none v4 (wr.setCell ⟨b, 13, none⟩ (.slice AN dn.length cN)) := hC.trans (Chg.set (g := b) (row := none) 13 _) (.inl rfl);obtain ⟨WS, hWS⟩ : ∃ WS, wr.setCell ⟨b, 13, none⟩ (.slice AN dn.length cN) = WS := ⟨_, rfl⟩;rw [hWS] at hcbS hownS hCS;have HWS := hJz hWS;have HIS := hJz (fun V => ris34E y0 y1 y2 y3 y4 y5 y6 y7 y8 y9 y10 y11 y12 AN dn.length cN V (by unfold maxLen; omega));obtain ⟨RB, hRB⟩ : ∃ RB, isZ [y0, y1, y2, y3, y4, y5, y6, y7, y8, y9, y10, y11, y12] dn.length = RB := ⟨_, rfl⟩;rw [hRB] at HIS;have HRB := hJz hRB;have HRQ := hJz hrr;have HCBS := hJz hcbS;have HCS := hJz hCS
     have HKQ : Hid (∀ V, Below WS.heap.size WS V → V.heap[q0]? = some (.cells #[.int .i64 0, .int .i64 0, .int .i64 0, .int .i64 0, .int .i64 0, .int .i64 0, .int .i64 0, .int .i64 0, .int .i64 0, .int .i64 0, .int .i64 0, .int .i64 0, .int .i64 0, .slice none 0 0] 26 (0, 0)) ∧ Below q0 w V ∧ CB V b [y0, y1, y2, y3, y4, y5, y6, y7, y8, y9, y10, y11, y12] (.slice AN dn.length cN) ∧ V.ownsRow W1 2 1 (.slice AN (dn).length cN) (dn).length (ints .i64 (dn))) := hJz fun V hV => by
      obtain ⟨_, _, _, _, h1, h2⟩ := HK4.out V (hCS.trans (Chg.of_below hV) (.inl rfl));exact ⟨h1, h2, hcbS.below hV, own_below hownS hV⟩
     clear hrr hzlen hcb hcbS hown hownS hCS hWS hRB hxq hBq hC hdr;go_upto_region 56 with fail;rw [HWS.out];clear c13 f13 hbl
     cases dP with
     | cons w0 r =>
      have hal1 : (at_ : Int) < (P0.length : Int) := by simp only [List.length_cons] at hat; omega
      have hN : endR R = none := by
       rw [← HRQ.out];unfold endR;simp only;rw [if_neg (by simp)]
      have HN9 : Hid (docC l = none) := hJz (by rw [HDC.out, hN]);obtain ⟨hxq, hBq, _, _⟩ := HKQ.out WS (Below.refl _ _);have hql := (Array.getElem?_eq_some_iff.1 hxq).1;have kq0 : WS.cell? ⟨q0, 0, none⟩ = some (.int .i64 0) := (cell_of_row WS q0 0 _ _ (0, 0) hxq).trans rfl;have kq1 : WS.cell? ⟨q0, 1, none⟩ = some (.int .i64 0) := (cell_of_row WS q0 1 _ _ (0, 0) hxq).trans rfl;have kq2 : WS.cell? ⟨q0, 2, none⟩ = some (.int .i64 0) := (cell_of_row WS q0 2 _ _ (0, 0) hxq).trans rfl;have kq3 : WS.cell? ⟨q0, 3, none⟩ = some (.int .i64 0) := (cell_of_row WS q0 3 _ _ (0, 0) hxq).trans rfl;have kq4 : WS.cell? ⟨q0, 4, none⟩ = some (.int .i64 0) := (cell_of_row WS q0 4 _ _ (0, 0) hxq).trans rfl;have kq5 : WS.cell? ⟨q0, 5, none⟩ = some (.int .i64 0) := (cell_of_row WS q0 5 _ _ (0, 0) hxq).trans rfl;have kq6 : WS.cell? ⟨q0, 6, none⟩ = some (.int .i64 0) := (cell_of_row WS q0 6 _ _ (0, 0) hxq).trans rfl;have kq7 : WS.cell? ⟨q0, 7, none⟩ = some (.int .i64 0) := (cell_of_row WS q0 7 _ _ (0, 0) hxq).trans rfl;have kq8 : WS.cell? ⟨q0, 8, none⟩ = some (.int .i64 0) := (cell_of_row WS q0 8 _ _ (0, 0) hxq).trans rfl;have kq9 : WS.cell? ⟨q0, 9, none⟩ = some (.int .i64 0) := (cell_of_row WS q0 9 _ _ (0, 0) hxq).trans rfl;have kq10 : WS.cell? ⟨q0, 10, none⟩ = some (.int .i64 0) := (cell_of_row WS q0 10 _ _ (0, 0) hxq).trans rfl;have kq11 : WS.cell? ⟨q0, 11, none⟩ = some (.int .i64 0) := (cell_of_row WS q0 11 _ _ (0, 0) hxq).trans rfl;have kq12 : WS.cell? ⟨q0, 12, none⟩ = some (.int .i64 0) := (cell_of_row WS q0 12 _ _ (0, 0) hxq).trans rfl;have kq13 : WS.cell? ⟨q0, 13, none⟩ = some (.slice none 0 0) := (cell_of_row WS q0 13 _ _ (0, 0) hxq).trans rfl;have fq : ∀ i, WS.frozen? ⟨q0, i, none⟩ = false := fun i => by simp [World.frozen?, hxq]
      have hcs := @cell_set;have HBQ9 := hJz hBq;clear hN hat hxq hBq;go_wp2_with fail
      refine bodyPost_ret (v := .tuple #[.agg #[.int .i64 0, .int .i64 0, .int .i64 0, .int .i64 0, .int .i64 0, .int .i64 0, .int .i64 0, .int .i64 0, .int .i64 0, .int .i64 0, .int .i64 0, .int .i64 0, .int .i64 0, .slice none 0 0], .int .i64 3]) ?_ rfl ⟨?_, ?_⟩
      ·simp [results, Tryz.results11, go_sem, kq0, kq1, kq2, kq3, kq4, kq5, kq6, kq7, kq8, kq9, kq10, kq11, kq12, kq13, fq, hcs]
      ·rw [HN9.out]; exact rfl
      ·exact ((((((((((((((HBQ9.out.setCell (Nat.le_refl _) _).setCell (Nat.le_refl _) _).setCell (Nat.le_refl _) _).setCell (Nat.le_refl _) _).setCell (Nat.le_refl _) _).setCell (Nat.le_refl _) _).setCell (Nat.le_refl _) _).setCell (Nat.le_refl _) _).setCell (Nat.le_refl _) _).setCell (Nat.le_refl _) _).setCell (Nat.le_refl _) _).setCell (Nat.le_refl _) _).setCell (Nat.le_refl _) _).setCell (Nat.le_refl _) _)
     | nil =>
      have hal1 : ¬ (at_ : Int) < (P0.length : Int) := by simp only [List.length_nil] at hat; omega
      have hal2 : decide ((at_ : Int) < (P0.length : Int)) = false := decide_eq_false hal1;have hal3 : P0.length ≤ at_ := by omega
      obtain ⟨_, _, hcb, _⟩ := HKQ.out WS (Below.refl _ _);obtain ⟨k0, fk0⟩ := hcb.got (o := 0) (by decide);obtain ⟨k1, fk1⟩ := hcb.got (o := 1) (by decide);obtain ⟨k2, fk2⟩ := hcb.got (o := 2) (by decide);obtain ⟨k3, fk3⟩ := hcb.got (o := 3) (by decide);obtain ⟨k4, fk4⟩ := hcb.got (o := 4) (by decide);obtain ⟨k5, fk5⟩ := hcb.got (o := 5) (by decide);obtain ⟨k6, fk6⟩ := hcb.got (o := 6) (by decide);obtain ⟨k7, fk7⟩ := hcb.got (o := 7) (by decide);obtain ⟨k8, fk8⟩ := hcb.got (o := 8) (by decide);obtain ⟨k9, fk9⟩ := hcb.got (o := 9) (by decide);obtain ⟨k10, fk10⟩ := hcb.got (o := 10) (by decide);obtain ⟨k11, fk11⟩ := hcb.got (o := 11) (by decide);obtain ⟨k12, fk12⟩ := hcb.got (o := 12) (by decide);obtain ⟨k13, fk13⟩ := hcb.gotV;have kl := hcb.lt;simp only [List.getD_cons_zero, List.getD_cons_succ] at k0 k1 k2 k3 k4 k5 k6 k7 k8 k9 k10 k11 k12;clear fk0 fk1 fk2 fk3 fk4 fk5 fk6 fk7 fk8 fk9 fk10 fk11 fk12 fk13;clear hal1 hcb hat
      go_wp2_with fail;refine (HIS.out _).mono ?_;rintro e v8 ⟨rfl, hb8⟩;clear k0 k1 k2 k3 k4 k5 k6 k7 k8 k9 k10 k11 k12 k13 kl
      cases RB with
      | false =>
       have hN : endR R = none := by
        rw [← HRQ.out];unfold endR;simp only;rw [if_neg (by simp [HRB.out])]
       exfalso
       have h := HRQ.out.trans HMO.out;injection h with h;have hp := HPP.out;rw [← h] at hp;exact hp rfl
      | true =>
       have hN : endR R = some ⟨[y0, y1, y2, y3, y4, y5, y6, y7, y8, y9, y10, y11, y12], dn, []⟩ := by
        rw [← HRQ.out];unfold endR;simp only;rw [if_pos ⟨trivial, HRB.out⟩]
       exfalso
       rw [HMO.out, HMP.out] at hN
       cases hN
end
end Go.Proofs.YtpmnjojednbnpaaGreatDoor
