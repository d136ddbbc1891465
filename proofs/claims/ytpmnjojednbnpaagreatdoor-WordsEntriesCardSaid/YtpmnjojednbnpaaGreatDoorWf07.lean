import Derived.Test.YtpmnjojednbnpaaGreatDoorWf06
set_option maxHeartbeats 16000000
set_option maxRecDepth 100000
set_option linter.unusedVariables false
set_option linter.unusedSimpArgs false
namespace Go.Proofs.YtpmnjojednbnpaaGreatDoor
open Go.ChangeShapes Go.WideShapes Go.ChangeAt Go.RowKit
section
theorem bs8_at {L : List Nat} {k : Nat} (h : k < L.length) (hL : L[k] < 256) : ((bs8 L)[k]'(by rw [bs8_size]; exact h)).toNat = L[k] := by
 have : (bs8 L)[k]'(by rw [bs8_size]; exact h) = UInt8.ofNat L[k] := by
  show (L.map UInt8.ofNat).toArray[k]'(by simpa using h) = _
  rw [List.getElem_toArray, List.getElem_map]
 rw [this];simp [Nat.mod_eq_of_lt hL]
theorem next_at (L : List Nat) (hL : ∀ x ∈ L, x < 128) (w : World) (g k : Nat) (hg : w.heap[g]? = some (.stringIter (bs8 L) k)) (hk : k < L.length) :
  ∀ ty, (Instr.next (.pointer (some ⟨g, 0, none⟩)) true ty).run Tryz.prog w = .ok (.tuple #[.bool true, .int .i64 (k : Int), .int .i32 (L[k] : Int)]) (w.iterAt g (bs8 L) (k + 1)) := fun ty => by
 have h1 : k < (bs8 L).size := by rw [bs8_size]; exact hk
 have h2 : L[k] < 128 := hL _ (List.getElem_mem hk);have h3 := bs8_at hk (by omega);rw [Lib.run_next_ascii_at (P := Tryz.prog) w g (bs8 L) k ty hg h1 (by rw [h3]; exact h2), h3]
theorem next_end (L : List Nat) (w : World) (g k : Nat) (hg : w.heap[g]? = some (.stringIter (bs8 L) k)) (hk : ¬ k < L.length) :
  ∀ ty, (Instr.next (.pointer (some ⟨g, 0, none⟩)) true ty).run Tryz.prog w = .ok (.tuple #[.bool false]) w := fun ty =>
 Lib.run_next_end_at (P := Tryz.prog) w g (bs8 L) k ty hg (by rw [bs8_size]; exact hk)
theorem fldL_low (op : Int) : ∀ x ∈ fldL op, x < 128 := by
 have h := fldL_cases op
 rcases h with h | h | h | h | h | h | h | h | h | h | h | h | h | h | h <;> rw [h] <;> decide
theorem slotL_low (f : Nat) : ∀ s ∈ slotL f, 2 ≤ s.1 ∧ s.1 < 13 := by
 have aux : ∀ {p : Prop} [Decidable p] {a b : List (Nat × Int)}, (∀ s ∈ a, 2 ≤ s.1 ∧ s.1 < 13) → (∀ s ∈ b, 2 ≤ s.1 ∧ s.1 < 13) → ∀ s ∈ (if p then a else b), 2 ≤ s.1 ∧ s.1 < 13 := fun ha hb => by
  split
  ·exact ha
  ·exact hb
 unfold slotL
 iterate 9 refine aux (by decide) ?_
 decide
theorem slotL_two (f : Nat) : (slotL f).length ≤ 2 := by
 have aux : ∀ {p : Prop} [Decidable p] {a b : List (Nat × Int)}, a.length ≤ 2 → b.length ≤ 2 → (if p then a else b).length ≤ 2 := fun ha hb => by
  split
  ·exact ha
  ·exact hb
 unfold slotL
 iterate 9 refine aux (by decide) ?_
 decide
theorem Sl.chgN {w w' : World} {A : Option Addr} {xs : List Value} {g : Nat} (h : Sl w A xs) (hC : Chg g none w w') (hA : ∀ b o, A = some ⟨b, o, none⟩ → b ≠ g) : Sl w' A xs := by
 intro hne;obtain ⟨b, o, e, hc⟩ := h hne;refine ⟨b, o, e, fun j u hu => ?_⟩;have h1 := hc j u hu;rw [World.cell?_of_block (a := ⟨b, o + j, none⟩) (hC.block b (World.block_lt_of_cell? _ _ h1) (hA b o e) (fun e => by cases e))];exact h1
theorem CB.iterAt {w : World} {b g k : Nat} {z : List Int} {v : Value} {s : ByteArray} (h : CB w b z v) (hg : g ≠ b) : CB (w.iterAt g s k) b z v := ⟨by rw [Lib.iterAt_other _ _ _ _ _ (fun e => hg e.symm)]; exact h.blk, h.len⟩
theorem srow_at {b f j : Nat} (h : j < (slotL f).length) : (srow b f)[j * 3]? = some (.pointer (sp b (slotL f)[j])) ∧ (srow b f)[j * 3 + 1]? = some (.int .i64 (sm (slotL f)[j])) ∧ (srow b f)[j * 3 + 2]? = some (.pointer (sq b (slotL f)[j])) := by
 have key : ∀ (l : List (Nat × Int)) (j : Nat) (h : j < l.length), (l.flatMap (scell b))[j * 3]? = some (.pointer (sp b l[j])) ∧ (l.flatMap (scell b))[j * 3 + 1]? = some (.int .i64 (sm l[j])) ∧ (l.flatMap (scell b))[j * 3 + 2]? = some (.pointer (sq b l[j])) := by
  intro l
  induction l with
  | nil => intro j h; simp at h
  | cons s r ih =>
   intro j h
   cases j with
   | zero => simp [scell]
   | succ j =>
    have := ih j (by simpa using h);rw [List.flatMap_cons]
    have e : ∀ i, (scell b s ++ r.flatMap (scell b))[(j + 1) * 3 + i]? = (r.flatMap (scell b))[j * 3 + i]? := fun i => by
     rw [List.getElem?_append_right (by simp [scell]; omega)]
     congr 1
     simp [scell]; omega
    exact ⟨(e 0).trans this.1, (e 1).trans this.2.1, (e 2).trans this.2.2⟩
 exact key _ j h
theorem slots_at {w : World} {A : Option Addr} {b f j : Nat} (h : Sl w A (srow b f)) (hj : j < (slotL f).length) : ∃ b2 o2, A = some ⟨b2, o2, none⟩ ∧ w.cell? ⟨b2, o2 + j * 3, none⟩ = some (.pointer (sp b (slotL f)[j])) ∧ w.cell? ⟨b2, o2 + j * 3 + 1, none⟩ = some (.int .i64 (sm (slotL f)[j])) ∧ w.cell? ⟨b2, o2 + j * 3 + 2, none⟩ = some (.pointer (sq b (slotL f)[j])) := by
 obtain ⟨h0, h1, h2⟩ := srow_at (b := b) hj;obtain ⟨b2, o2, e, hc⟩ := h (fun e => by rw [e] at h0; cases h0);exact ⟨b2, o2, e, hc _ _ h0, hc _ _ h1, hc _ _ h2⟩
theorem chk_step {L : List Nat} {y : List Int} {k : Nat} (h : k < L.length) : chkZ (L.drop k) y = ((stpZ (slotL L[k]) y).1 && (chkZ (L.drop (k + 1)) (stpZ (slotL L[k]) y).2).1, (chkZ (L.drop (k + 1)) (stpZ (slotL L[k]) y).2).2) := by
 rw [List.drop_eq_getElem_cons h]; rfl
theorem stp_step {l : List (Nat × Int)} {y : List Int} {j : Nat} (h : j < l.length) : stpZ (l.drop j) y = (fitS y l[j] && (stpZ (l.drop (j + 1)) (y.set l[j].1 0)).1, (stpZ (l.drop (j + 1)) (y.set l[j].1 0)).2) := by
 rw [List.drop_eq_getElem_cons h]; rfl
def zeroL (l : List (Nat × Int)) (z : List Int) : Bool := l.all fun s => decide (z.getD s.1 0 = 0)
def zeroF (l : List Nat) (z : List Int) : Bool := l.all fun f => zeroL (slotL f) z
theorem zeroF_step {L : List Nat} {y : List Int} {k : Nat} (h : k < L.length) : zeroF (L.drop k) y = (zeroL (slotL L[k]) y && zeroF (L.drop (k + 1)) y) := by
 rw [List.drop_eq_getElem_cons h]; rfl
theorem zeroL_step {l : List (Nat × Int)} {y : List Int} {j : Nat} (h : j < l.length) : zeroL (l.drop j) y = (decide (y.getD l[j].1 0 = 0) && zeroL (l.drop (j + 1)) y) := by
 rw [List.drop_eq_getElem_cons h]; rfl
theorem iter_keep {w w' : World} {g : Nat} {s : ByteArray} {k : Nat} (h : w.heap[g]? = some (.stringIter s k)) (hb : Below w.heap.size w w') : w'.heap[g]? = some (.stringIter s k) := by
 rw [hb.block g (Array.getElem?_eq_some_iff.1 h).1]; exact h
theorem iter_lt {w : World} {g : Nat} {s : ByteArray} {k : Nat} (h : w.heap[g]? = some (.stringIter s k)) : g < w.heap.size := (Array.getElem?_eq_some_iff.1 h).1
theorem iter_pos {w : World} {g : Nat} {s : ByteArray} {k : Nat} (h : w.heap[g]? = some (.stringIter s k)) : w.iterPos g = k := by unfold World.iterPos; rw [h]
theorem Sl.iterAt {w : World} {A : Option Addr} {xs : List Value} {g : Nat} {s : ByteArray} {p : Nat} (h : Sl w A xs) (hg : w.heap[g]? = some (.stringIter s p)) (k : Nat) : Sl (w.iterAt g s k) A xs := by
 intro hne;obtain ⟨b, o, e, hc⟩ := h hne;refine ⟨b, o, e, fun j u hu => ?_⟩;have h1 := hc j u hu
 have hbg : b ≠ g := fun e => by
  subst e;unfold World.cell? at h1;rw [hg] at h1
  cases h1
 rw [World.cell?_of_block (a := ⟨b, o + j, none⟩) (Lib.iterAt_other w g b s k hbg)];exact h1
theorem checkE (z0 z1 z2 z3 z4 z5 z6 z7 z8 z9 z10 z11 z12 : Int) (A : Option Addr) (n cap : Nat) (w : World) (hn : n ≤ maxLen) :
  Calls Tryz.prog 25 #[.agg #[.int .i64 z0, .int .i64 z1, .int .i64 z2, .int .i64 z3, .int .i64 z4, .int .i64 z5, .int .i64 z6, .int .i64 z7, .int .i64 z8, .int .i64 z9, .int .i64 z10, .int .i64 z11, .int .i64 z12, .slice A n cap]] w fun e w' => e = .returned (.int .i64 (if okZ [z0, z1, z2, z3, z4, z5, z6, z7, z8, z9, z10, z11, z12] n = true then 0 else 3)) ∧ Below w.heap.size w w' := by
 obtain ⟨RES, hRES⟩ : ∃ RES : Int, (if okZ [z0, z1, z2, z3, z4, z5, z6, z7, z8, z9, z10, z11, z12] n = true then 0 else 3) = RES := ⟨_, rfl⟩;rw [hRES];unfold maxLen at hn;have hCB0 : CB (w.alloc (.cells #[.int .i64 z0, .int .i64 z1, .int .i64 z2, .int .i64 z3, .int .i64 z4, .int .i64 z5, .int .i64 z6, .int .i64 z7, .int .i64 z8, .int .i64 z9, .int .i64 z10, .int .i64 z11, .int .i64 z12, .slice A n cap] 26)) w.heap.size [z0, z1, z2, z3, z4, z5, z6, z7, z8, z9, z10, z11, z12] (.slice A n cap) := ⟨heap_alloc_new w _, rfl⟩;have hB0 : Below w.heap.size w (w.alloc (.cells #[.int .i64 z0, .int .i64 z1, .int .i64 z2, .int .i64 z3, .int .i64 z4, .int .i64 z5, .int .i64 z6, .int .i64 z7, .int .i64 z8, .int .i64 z9, .int .i64 z10, .int .i64 z11, .int .i64 z12, .slice A n cap] 26)) := since_alloc (Below.refl _ w) _;obtain ⟨b, hb⟩ : ∃ b, w.heap.size = b := ⟨_, rfl⟩;have HBW := hJz hb;rw [hb] at hCB0 hB0 ⊢;clear hb;by_cases hP : 1 ≤ z0 ∧ z0 ≤ 31 ∧ 0 ≤ z1 ∧ z1 ≤ 8 ∧ n ≤ 32
 case neg =>
  have e : okZ [z0, z1, z2, z3, z4, z5, z6, z7, z8, z9, z10, z11, z12] n = false := by
   rw [Bool.eq_false_iff];intro hc;simp only [okZ, Bool.and_eq_true, decide_eq_true_eq] at hc;exact hP hc.1.1.1
  rw [e] at hRES;have hRES : RES = 3 := by rw [← hRES]; rfl
  subst hRES;obtain ⟨c0, f0⟩ := hCB0.got (o := 0) (by decide);obtain ⟨c1, f1⟩ := hCB0.got (o := 1) (by decide);obtain ⟨cv, fv⟩ := hCB0.gotV;simp only [List.getD_cons_zero, List.getD_cons_succ] at c0 c1;go_enter Tryz.func25, Tryz.ntmps25;go_upto_region 1 with fail;rw [HBW.out];generalize w.alloc (.cells #[.int .i64 z0, .int .i64 z1, .int .i64 z2, .int .i64 z3, .int .i64 z4, .int .i64 z5, .int .i64 z6, .int .i64 z7, .int .i64 z8, .int .i64 z9, .int .i64 z10, .int .i64 z11, .int .i64 z12, .slice A n cap] 26) = W1 at *;have hnn : ((n : Nat) : Int) = (n : Int) := rfl;have hlt := hCB0.lt;clear hCB0 e
  by_cases p0 : z0 < 1
  ·clear hP;go_wp2_with fail;go_ret;exact ⟨rfl, hB0⟩
  by_cases p1 : 31 < z0
  ·clear hP;go_wp2_with fail;go_ret;exact ⟨rfl, hB0⟩
  by_cases p2 : z1 < 0
  ·clear hP;go_wp2_with fail;go_ret;exact ⟨rfl, hB0⟩
  by_cases p3 : 8 < z1
  ·clear hP;go_wp2_with fail;go_ret;exact ⟨rfl, hB0⟩
  have p4 : (32 : Int) < (n : Int) := by omega
  clear hP;go_wp2_with fail;go_ret;exact ⟨rfl, hB0⟩
 have hZ0 : ([z0, z1, z2, z3, z4, z5, z6, z7, z8, z9, z10, z11, z12] : List Int).getD 0 0 = z0 := rfl
 have HOK : Hid (okZ [z0, z1, z2, z3, z4, z5, z6, z7, z8, z9, z10, z11, z12] n = ((chkZ (fldL z0) [z0, z1, z2, z3, z4, z5, z6, z7, z8, z9, z10, z11, z12]).1 && zeroZ (chkZ (fldL z0) [z0, z1, z2, z3, z4, z5, z6, z7, z8, z9, z10, z11, z12]).2 && (decide (n = 0) || (fldL z0).contains 78))) := hJz (by
  unfold okZ
  rw [hZ0, decide_eq_true ⟨hP.1, hP.2.1, hP.2.2.1, hP.2.2.2.1, hP.2.2.2.2⟩, Bool.true_and])
 obtain ⟨Z, hZ⟩ : ∃ Z, Z = ([z0, z1, z2, z3, z4, z5, z6, z7, z8, z9, z10, z11, z12] : List Int) := ⟨_, rfl⟩;rw [← hZ] at HOK;obtain ⟨c0, f0⟩ := hCB0.got (o := 0) (by decide);obtain ⟨c1, f1⟩ := hCB0.got (o := 1) (by decide);obtain ⟨cv, fv⟩ := hCB0.gotV;simp only [List.getD_cons_zero, List.getD_cons_succ] at c0 c1;have q0 : ¬ z0 < 1 := by omega
 have q1 : ¬ 31 < z0 := by omega
 have q2 : ¬ z1 < 0 := by omega
 have q3 : ¬ 8 < z1 := by omega
 have q4 : ¬ (32 : Int) < (n : Int) := by omega
 have HF := hJz (fun V => cfld_any z0 V);have HLOW := hJz (fldL_low z0);rw [← hZ] at hRES hCB0;have HRES := hJz hRES;clear hP hRES hZ0;go_enter Tryz.func25, Tryz.ntmps25;go_upto_region 1 with fail;rw [HBW.out];generalize w.alloc (.cells #[.int .i64 z0, .int .i64 z1, .int .i64 z2, .int .i64 z3, .int .i64 z4, .int .i64 z5, .int .i64 z6, .int .i64 z7, .int .i64 z8, .int .i64 z9, .int .i64 z10, .int .i64 z11, .int .i64 z12, .slice A n cap] 26) = W1 at *;have hlt := hCB0.lt;have HCB0 := hJz hCB0;have HB0 := hJz hB0;clear hCB0 hB0;go_wp2_with fail;refine (HF.out _).mono ?_;rintro e w2 ⟨rfl, hb2⟩;obtain ⟨L, hL⟩ : ∃ L, fldL z0 = L := ⟨_, rfl⟩;rw [hL] at HOK HLOW ⊢;have hCB2 := HCB0.out.below hb2;have hB2 := HB0.out.trans (hb2.mono (Nat.le_of_lt hlt));clear hb2 HF hL c0 f0 c1 f1 cv fv q0 q1 q2 q3 q4 hlt;have hlt2 := hCB2.lt;obtain ⟨IT, hIT⟩ : ∃ IT, w2.heap.size = IT := ⟨_, rfl⟩;have hI2 : (w2.iter (bs8 L) 0).heap[IT]? = some (.stringIter (bs8 L) 0) := by rw [← hIT]; exact World.iter_heap w2 _ _
 have hA2 : Below w2.heap.size w2 (w2.iter (bs8 L) 0) := since_alloc (Below.refl _ w2) _;have hCB3 := hCB2.below hA2;have hB3 := hB2.trans (hA2.mono (Nat.le_of_lt hlt2));have HITb : Hid (IT ≠ b) := hJz (by omega);have HITge : Hid (b ≤ IT) := hJz (by omega)
 have HBAD : Hid ((chkZ L Z).1 = false → RES = 3) := hJz fun h => by
  rw [← HRES.out, HOK.out, h]; rfl
 clear hCB2 hB2 hA2 hlt2;have HITE := hJz hIT;clear hIT;go_wp2_with fail;rw [HITE.out];generalize w2.iter (bs8 L) 0 = W3 at *;go_loopw [4] (fun _ wr => ∃ (k : Nat) (y : List Int) (u : Value), k ≤ L.length ∧ wr.heap[IT]? = some (.stringIter (bs8 L) k) ∧ CB wr b y u ∧ chkZ (L.drop k) y = chkZ L Z ∧ u = (if (L.take k).contains 78 = true then .slice none 0 0 else .slice A n cap) ∧ Below b w wr) (fun _ wr => L.length - wr.iterPos IT)
 case atStart => exact ⟨0, Z, _, by omega, hI2, hCB3, rfl, rfl, hB3⟩
 case round =>
  clear hI2 hCB3 hB3;obtain ⟨k, y, u, hk, hI, hC, hCH, hu, hB⟩ := hrel;have HPOS := hJz (iter_pos hI)
  by_cases hkl : k < L.length
  ·have hnx := next_at L HLOW.out wr IT k hI hkl;obtain ⟨f, hf⟩ : ∃ f, L[k] = f := ⟨_, rfl⟩;have hCH1 := chk_step (y := y) hkl;rw [hCH, hf] at hCH1;have HCH := hJz hCH1.symm;have hI1 := Lib.iterAt_heap wr IT (bs8 L) k (k + 1) hI;have hC1 : CB (wr.iterAt IT (bs8 L) (k + 1)) b y u := hC.iterAt HITb.out;have hB1 := Lib.below_iterAt hB HITge.out (bs8 L) (k + 1)
   have HTK : Hid ((L.take (k + 1)).contains 78 = ((L.take k).contains 78 || decide (f = 78))) := hJz (by
    rw [take_snoc L k hkl, hf]
    simp [Bool.or_comm, eq_comm])
   rw [hf] at hnx;clear hCH hCH1 hI hC hB
   by_cases h78 : f = 78
   ·have hne : ((f : Int) == 78) = true := by rw [beq_iff_eq]; omega
    have HU : Hid ((Value.slice none 0 0) = (if (L.take (k + 1)).contains 78 = true then .slice none 0 0 else .slice A n cap)) := hJz (by rw [HTK.out, decide_eq_true h78, Bool.or_true]; rfl);obtain ⟨cv, fv⟩ := hC1.gotV;have hltc := hC1.lt;have hC1 := hC1.putV (.slice none 0 0);have HSL := hJz (slots_any b f ((wr.iterAt IT (bs8 L) (k + 1)).setCell ⟨b, 13, none⟩ (.slice none 0 0)) hC1.lt);have hI1 : ((wr.iterAt IT (bs8 L) (k + 1)).setCell ⟨b, 13, none⟩ (.slice none 0 0)).heap[IT]? = some (.stringIter (bs8 L) (k + 1)) := by rw [Below.heap_setCell _ _ _ _ HITb.out]; exact hI1
    have hB1 : Below b w ((wr.iterAt IT (bs8 L) (k + 1)).setCell ⟨b, 13, none⟩ (.slice none 0 0)) := hB1.setCell (Nat.le_refl b) _;have HHC := hJz hC1;have HHI := hJz hI1;have HHB := hJz hB1;clear hu hC1 hI1 hB1 h78;go_upto_region 8 with fail;clear hne;have hC1 := HHC.out;have hI1 := HHI.out;have hB1 := HHB.out;clear cv fv hltc HHC HHI HHB;generalize (wr.iterAt IT (bs8 L) (k + 1)).setCell ⟨b, 13, none⟩ (.slice none 0 0) = wi at *;have hltb := hC1.lt;clear hnx;go_wp2_with fail;refine HSL.out.mono ?_;rintro e w3 ⟨⟨A2, cap2, rfl, hs3, ha3⟩, hb3⟩;have hIT3 := iter_keep hI1 hb3;have hCB3 := hC1.below hb3;have hB3 := hB1.trans (hb3.mono (Nat.le_of_lt hltb));have HNB : Hid (∀ b2 o2, A2 = some ⟨b2, o2, none⟩ → b2 ≠ b) := hJz fun b2 o2 e => by have := ha3 b2 o2 e; omega
    clear hb3 ha3 hI1 hC1 hB1 HSL;obtain ⟨uQ, huQ⟩ : ∃ uQ, uQ = Value.slice none 0 0 := ⟨_, rfl⟩;have HU := hJz (huQ.trans HU.out);rw [← huQ] at hCB3;clear huQ;go_wp2_with fail;go_loopw [48] (fun iv wr => ∃ (j : Nat) (y2 : List Int), j ≤ (slotL f).length ∧ iv = .int .i64 (j : Int) ∧ CB wr b y2 uQ ∧ stpZ ((slotL f).drop j) y2 = stpZ (slotL f) y ∧ wr.heap[IT]? = some (.stringIter (bs8 L) (k + 1)) ∧ Sl wr A2 (srow b f) ∧ Below b w wr) (fun iv _ => (slotL f).length - (intOf iv).toNat)
    case atStart => exact ⟨0, y, by omega, rfl, hCB3, rfl, hIT3, hs3, hB3⟩
    case round =>
     clear hCB3 hIT3 hs3 hB3;obtain ⟨j, y2, hj1, rfl, hC, hST, hI, hS, hB⟩ := hrel
     by_cases hj : j < (slotL f).length
     ·have hjl : (j : Int) < ((slotL f).length : Int) := by omega
      have hj2 := slotL_two f;have hj0 : (0 : Int) ≤ (j : Int) := by omega
      have hS0 := hJz hS;obtain ⟨b2, o2, rfl, c0, c1, c2⟩ := slots_at hS hj;obtain ⟨s, hs⟩ : ∃ s, (slotL f)[j] = s := ⟨_, rfl⟩;have hs13 : s.1 < 13 := by rw [← hs]; exact (slotL_low f _ (List.getElem_mem hj)).2
      rw [hs] at c0 c1 c2;obtain ⟨SZ, hSZ⟩ : ∃ SZ, wr.heap.size = SZ := ⟨_, rfl⟩
      have HSB : Hid (∀ V, Below (SZ + 1) (wr.alloc (.cells #[.pointer (sp b s), .int .i64 (sm s), .pointer (sq b s)] 79)) V → V.cell? ⟨SZ, 0, none⟩ = some (.pointer (sp b s)) ∧ V.cell? ⟨SZ, 1, none⟩ = some (.int .i64 (sm s)) ∧ V.cell? ⟨SZ, 2, none⟩ = some (.pointer (sq b s)) ∧ SZ < V.heap.size) := hJz fun V hV => by
       have h0 := heap_alloc_new wr (.cells #[.pointer (sp b s), .int .i64 (sm s), .pointer (sq b s)] 79);rw [hSZ] at h0;have h1 := (hV.block SZ (by omega)).trans h0;refine ⟨?_, ?_, ?_, (Array.getElem?_eq_some_iff.1 h1).1⟩ <;> rw [cell_of_row V SZ _ _ _ (0, 0) h1] <;> rfl
      have hsz1 : (wr.alloc (.cells #[.pointer (sp b s), .int .i64 (sm s), .pointer (sq b s)] 79)).heap.size = SZ + 1 := by rw [World.size_alloc, hSZ]
      have hST2 := stp_step (y := y2) hj;rw [hST, hs] at hST2;have HST2 := hJz hST2;have hbs : b < SZ := by rw [← hSZ]; exact hC.lt
      have HFI := hJz (fits_any b y2 uQ s (wr.alloc (.cells #[.pointer (sp b s), .int .i64 (sm s), .pointer (sq b s)] 79)) (hC.below (since_alloc (Below.refl _ _) _)) hs13)
      have HCB : Hid (∀ V, Below (SZ + 1) (wr.alloc (.cells #[.pointer (sp b s), .int .i64 (sm s), .pointer (sq b s)] 79)) V → CB V b y2 uQ ∧ V.heap[IT]? = some (.stringIter (bs8 L) (k + 1)) ∧ Sl V (some ⟨b2, o2, none⟩) (srow b f) ∧ Below b w V) := hJz fun V hV => by
       have h1 : Below wr.heap.size wr V := by
        refine (since_alloc (Below.refl _ wr) (.cells #[.pointer (sp b s), .int .i64 (sm s), .pointer (sq b s)] 79)).trans (hV.mono ?_);rw [hSZ]; omega
       exact ⟨hC.below h1, iter_keep hI h1, hS0.out.below h1, hB.trans (h1.mono (Nat.le_of_lt hC.lt))⟩
      have HSn := hJz hs;have HSZ := hJz hsz1;clear hST hST2 hC hI hS hB hsz1 hs
      by_cases hf : fitS y2 s = true
      ·rw [hf] at HFI;go_wp2_with fail
       try simp only [hSZ]
       refine HFI.out.mono ?_;rintro e v1 ⟨rfl, hb1⟩;rw [HSZ.out] at hb1;obtain ⟨t0, t1, t2, tl⟩ := HSB.out v1 hb1;obtain ⟨hC1, hI1, hS1, hB1⟩ := HCB.out v1 hb1;have HP := hJz (put_any b y2 uQ s 0 v1 hC1 hs13);have HI1 := hJz hI1;have HS1 := hJz hS1;have HC1 := hJz hC1;clear hb1 hI1 hS1 hC1 HFI;go_wp2_with fail;refine HP.out.mono ?_;rintro e v2 ⟨rfl, hC2, hG2⟩;have hI2 : v2.heap[IT]? = some (.stringIter (bs8 L) (k + 1)) := by rw [hG2.block IT (iter_lt HI1.out) HITb.out (fun e => by cases e)]; exact HI1.out
       have hS2 := HS1.out.chgN hG2 HNB.out;have hB2 := hB1.trans (hG2.below (Nat.le_of_lt HC1.out.lt) (Nat.le_refl b) (fun b h => by cases h));clear HP hG2;go_wp2_with fail;go_roundw
       case rel =>
        refine ⟨j + 1, y2.set s.1 0, by omega, by go_num, hC2, ?_, hI2, hS2, hB2⟩;have h := HST2.out;rw [hf, Bool.true_and] at h;exact h.symm
       case measure => simp [intOf]; omega
      ·have hf : fitS y2 s = false := by simpa using hf
       rw [hf] at HFI
       have hR3 : RES = 3 := by
        have h := HST2.out;rw [hf, Bool.false_and] at h;refine HBAD.out ?_;have := congrArg Prod.fst HCH.out;rw [h] at this;rw [← this];rfl
       subst hR3;go_wp2_with fail
       try simp only [hSZ]
       refine HFI.out.mono ?_;rintro e v1 ⟨rfl, hb1⟩;rw [HSZ.out] at hb1;obtain ⟨hC1, hI1, hS1, hB1⟩ := HCB.out v1 hb1;clear hb1 hI1 hS1 hC1 HFI;go_wp2_with fail;go_ret;exact ⟨rfl, hB1⟩
     ·obtain rfl : j = (slotL f).length := by omega
      have hST3 : stpZ (slotL f) y = (true, y2) := by rw [← hST, List.drop_length]; rfl
      have hCH2 : chkZ (L.drop (k + 1)) y2 = chkZ L Z := by
       have h := HCH.out;rw [hST3, Bool.true_and] at h;exact h
      have hpos := iter_pos hI;clear hST;go_wp2_with fail;go_roundw
      case rel => exact ⟨k + 1, y2, uQ, by omega, hI, hC, hCH2, HU.out, hB⟩
      case measure =>
       rw [hpos];have := HPOS.out;omega
   ·have hne : ((f : Int) == 78) = false := by rw [beq_eq_false_iff_ne]; omega
    have HU : Hid (u = (if (L.take (k + 1)).contains 78 = true then .slice none 0 0 else .slice A n cap)) := hJz (by rw [HTK.out, decide_eq_false h78, Bool.or_false]; exact hu);have HSL := hJz (slots_any b f (wr.iterAt IT (bs8 L) (k + 1)) hC1.lt);clear hu;go_upto_region 8 with fail;generalize wr.iterAt IT (bs8 L) (k + 1) = wi at *;have hltb := hC1.lt;clear hnx;go_wp2_with fail;refine HSL.out.mono ?_;rintro e w3 ⟨⟨A2, cap2, rfl, hs3, ha3⟩, hb3⟩;have hIT3 := iter_keep hI1 hb3;have hCB3 := hC1.below hb3;have hB3 := hB1.trans (hb3.mono (Nat.le_of_lt hltb));have HNB : Hid (∀ b2 o2, A2 = some ⟨b2, o2, none⟩ → b2 ≠ b) := hJz fun b2 o2 e => by have := ha3 b2 o2 e; omega
    clear hb3 ha3 hI1 hC1 hB1 HSL;go_wp2_with fail;go_loopw [48] (fun iv wr => ∃ (j : Nat) (y2 : List Int), j ≤ (slotL f).length ∧ iv = .int .i64 (j : Int) ∧ CB wr b y2 u ∧ stpZ ((slotL f).drop j) y2 = stpZ (slotL f) y ∧ wr.heap[IT]? = some (.stringIter (bs8 L) (k + 1)) ∧ Sl wr A2 (srow b f) ∧ Below b w wr) (fun iv _ => (slotL f).length - (intOf iv).toNat)
    case atStart => exact ⟨0, y, by omega, rfl, hCB3, rfl, hIT3, hs3, hB3⟩
    case round =>
     clear hCB3 hIT3 hs3 hB3;obtain ⟨j, y2, hj1, rfl, hC, hST, hI, hS, hB⟩ := hrel
     by_cases hj : j < (slotL f).length
     ·have hjl : (j : Int) < ((slotL f).length : Int) := by omega
      have hj2 := slotL_two f;have hj0 : (0 : Int) ≤ (j : Int) := by omega
      have hS0 := hJz hS;obtain ⟨b2, o2, rfl, c0, c1, c2⟩ := slots_at hS hj;obtain ⟨s, hs⟩ : ∃ s, (slotL f)[j] = s := ⟨_, rfl⟩;have hs13 : s.1 < 13 := by rw [← hs]; exact (slotL_low f _ (List.getElem_mem hj)).2
      rw [hs] at c0 c1 c2;obtain ⟨SZ, hSZ⟩ : ∃ SZ, wr.heap.size = SZ := ⟨_, rfl⟩
      have HSB : Hid (∀ V, Below (SZ + 1) (wr.alloc (.cells #[.pointer (sp b s), .int .i64 (sm s), .pointer (sq b s)] 79)) V → V.cell? ⟨SZ, 0, none⟩ = some (.pointer (sp b s)) ∧ V.cell? ⟨SZ, 1, none⟩ = some (.int .i64 (sm s)) ∧ V.cell? ⟨SZ, 2, none⟩ = some (.pointer (sq b s)) ∧ SZ < V.heap.size) := hJz fun V hV => by
       have h0 := heap_alloc_new wr (.cells #[.pointer (sp b s), .int .i64 (sm s), .pointer (sq b s)] 79);rw [hSZ] at h0;have h1 := (hV.block SZ (by omega)).trans h0;refine ⟨?_, ?_, ?_, (Array.getElem?_eq_some_iff.1 h1).1⟩ <;> rw [cell_of_row V SZ _ _ _ (0, 0) h1] <;> rfl
      have hsz1 : (wr.alloc (.cells #[.pointer (sp b s), .int .i64 (sm s), .pointer (sq b s)] 79)).heap.size = SZ + 1 := by rw [World.size_alloc, hSZ]
      have hST2 := stp_step (y := y2) hj;rw [hST, hs] at hST2;have HST2 := hJz hST2;have hbs : b < SZ := by rw [← hSZ]; exact hC.lt
      have HFI := hJz (fits_any b y2 u s (wr.alloc (.cells #[.pointer (sp b s), .int .i64 (sm s), .pointer (sq b s)] 79)) (hC.below (since_alloc (Below.refl _ _) _)) hs13)
      have HCB : Hid (∀ V, Below (SZ + 1) (wr.alloc (.cells #[.pointer (sp b s), .int .i64 (sm s), .pointer (sq b s)] 79)) V → CB V b y2 u ∧ V.heap[IT]? = some (.stringIter (bs8 L) (k + 1)) ∧ Sl V (some ⟨b2, o2, none⟩) (srow b f) ∧ Below b w V) := hJz fun V hV => by
       have h1 : Below wr.heap.size wr V := by
        refine (since_alloc (Below.refl _ wr) (.cells #[.pointer (sp b s), .int .i64 (sm s), .pointer (sq b s)] 79)).trans (hV.mono ?_);rw [hSZ]; omega
       exact ⟨hC.below h1, iter_keep hI h1, hS0.out.below h1, hB.trans (h1.mono (Nat.le_of_lt hC.lt))⟩
      have HSn := hJz hs;have HSZ := hJz hsz1;clear hST hST2 hC hI hS hB hsz1 hs
      by_cases hf : fitS y2 s = true
      ·rw [hf] at HFI;go_wp2_with fail
       try simp only [hSZ]
       refine HFI.out.mono ?_;rintro e v1 ⟨rfl, hb1⟩;rw [HSZ.out] at hb1;obtain ⟨t0, t1, t2, tl⟩ := HSB.out v1 hb1;obtain ⟨hC1, hI1, hS1, hB1⟩ := HCB.out v1 hb1;have HP := hJz (put_any b y2 u s 0 v1 hC1 hs13);have HI1 := hJz hI1;have HS1 := hJz hS1;have HC1 := hJz hC1;clear hb1 hI1 hS1 hC1 HFI;go_wp2_with fail;refine HP.out.mono ?_;rintro e v2 ⟨rfl, hC2, hG2⟩;have hI2 : v2.heap[IT]? = some (.stringIter (bs8 L) (k + 1)) := by rw [hG2.block IT (iter_lt HI1.out) HITb.out (fun e => by cases e)]; exact HI1.out
       have hS2 := HS1.out.chgN hG2 HNB.out;have hB2 := hB1.trans (hG2.below (Nat.le_of_lt HC1.out.lt) (Nat.le_refl b) (fun b h => by cases h));clear HP hG2;go_wp2_with fail;go_roundw
       case rel =>
        refine ⟨j + 1, y2.set s.1 0, by omega, by go_num, hC2, ?_, hI2, hS2, hB2⟩;have h := HST2.out;rw [hf, Bool.true_and] at h;exact h.symm
       case measure => simp [intOf]; omega
      ·have hf : fitS y2 s = false := by simpa using hf
       rw [hf] at HFI
       have hR3 : RES = 3 := by
        have h := HST2.out;rw [hf, Bool.false_and] at h;refine HBAD.out ?_;have := congrArg Prod.fst HCH.out;rw [h] at this;rw [← this];rfl
       subst hR3;go_wp2_with fail
       try simp only [hSZ]
       refine HFI.out.mono ?_;rintro e v1 ⟨rfl, hb1⟩;rw [HSZ.out] at hb1;obtain ⟨hC1, hI1, hS1, hB1⟩ := HCB.out v1 hb1;clear hb1 hI1 hS1 hC1 HFI;go_wp2_with fail;go_ret;exact ⟨rfl, hB1⟩
     ·obtain rfl : j = (slotL f).length := by omega
      have hST3 : stpZ (slotL f) y = (true, y2) := by rw [← hST, List.drop_length]; rfl
      have hCH2 : chkZ (L.drop (k + 1)) y2 = chkZ L Z := by
       have h := HCH.out;rw [hST3, Bool.true_and] at h;exact h
      have hpos := iter_pos hI;clear hST;go_wp2_with fail;go_roundw
      case rel => exact ⟨k + 1, y2, u, by omega, hI, hC, hCH2, HU.out, hB⟩
      case measure =>
       rw [hpos];have := HPOS.out;omega
  ·have hnx := next_end L wr IT k hI hkl;obtain rfl : k = L.length := by omega
   rw [List.drop_length] at hCH;rw [List.take_length] at hu;have hZ1 : chkZ L Z = (true, y) := hCH.symm
   have HR2 : Hid ((if (zeroZ y && (decide (n = 0) || L.contains 78)) = true then 0 else 3) = RES) := hJz (by
    have := HRES.out;rw [HOK.out, hZ1, Bool.true_and] at this
    exact this)
   have hltb := hC.lt;obtain ⟨JT, hJT⟩ : ∃ JT, wr.heap.size = JT := ⟨_, rfl⟩;have hI2 : (wr.iter (bs8 sing) 0).heap[JT]? = some (.stringIter (bs8 sing) 0) := by rw [← hJT]; exact World.iter_heap wr _ _
   have hA2 : Below wr.heap.size wr (wr.iter (bs8 sing) 0) := since_alloc (Below.refl _ wr) _;have hC3 := hC.below hA2;have hB3 := hB.trans (hA2.mono (Nat.le_of_lt hltb));have HJTb : Hid (JT ≠ b) := hJz (by omega);have HJTge : Hid (b ≤ JT) := hJz (by omega);have HU := hJz hu;have HSB : Hid ((⟨#[77, 85, 79, 73, 65, 84, 68, 81, 80]⟩ : ByteArray) = bs8 sing) := hJz rfl;have HSLOW : Hid (∀ x ∈ sing, x < 128) := hJz (by decide);have HJ := hJz hJT;clear hJT hA2 hltb hC hB hI hCH hZ1 hu HPOS HITb HITge HBAD HRES HOK HCB0 HB0;go_upto_region 16 with fail;rw [HJ.out, HSB.out];generalize wr.iter (bs8 sing) 0 = W5 at *;clear hnx;go_loopw [8] (fun _ wr => ∃ k : Nat, k ≤ sing.length ∧ wr.heap[JT]? = some (.stringIter (bs8 sing) k) ∧ CB wr b y u ∧ zeroF (sing.drop k) y = zeroZ y ∧ Below b w wr) (fun _ wr => sing.length - wr.iterPos JT)
   case atStart => exact ⟨0, by omega, hI2, hC3, rfl, hB3⟩
   case round =>
    clear hI2 hC3 hB3;obtain ⟨k, hk, hI, hC, hZF, hB⟩ := hrel;have HPOS := hJz (iter_pos hI)
    by_cases hkl : k < sing.length
    ·have hnx := next_at sing HSLOW.out wr JT k hI hkl;obtain ⟨f, hf⟩ : ∃ f, sing[k] = f := ⟨_, rfl⟩;have hZS := zeroF_step (y := y) hkl;rw [hZF, hf] at hZS;have HZS := hJz hZS;have hI1 := Lib.iterAt_heap wr JT (bs8 sing) k (k + 1) hI;have hC1 : CB (wr.iterAt JT (bs8 sing) (k + 1)) b y u := hC.iterAt HJTb.out;have hB1 := Lib.below_iterAt hB HJTge.out (bs8 sing) (k + 1);have HSL := hJz (slots_any b f (wr.iterAt JT (bs8 sing) (k + 1)) hC1.lt);rw [hf] at hnx;clear hZF hZS hI hC hB;go_upto_region 18 with fail;generalize wr.iterAt JT (bs8 sing) (k + 1) = wi at *;have hltb := hC1.lt;clear hnx;go_wp2_with fail;refine HSL.out.mono ?_;rintro e w3 ⟨⟨A2, cap2, rfl, hs3, ha3⟩, hb3⟩;have hIT3 := iter_keep hI1 hb3;have hCB3 := hC1.below hb3;have hB3 := hB1.trans (hb3.mono (Nat.le_of_lt hltb));clear hb3 ha3 hI1 hC1 hB1 HSL;go_wp2_with fail;go_loopw [65] (fun iv wr => ∃ j : Nat, j ≤ (slotL f).length ∧ iv = .int .i64 (j : Int) ∧ CB wr b y u ∧ zeroL ((slotL f).drop j) y = zeroL (slotL f) y ∧ wr.heap[JT]? = some (.stringIter (bs8 sing) (k + 1)) ∧ Sl wr A2 (srow b f) ∧ Below b w wr) (fun iv _ => (slotL f).length - (intOf iv).toNat)
     case atStart => exact ⟨0, by omega, rfl, hCB3, rfl, hIT3, hs3, hB3⟩
     case round =>
      clear hCB3 hIT3 hs3 hB3;obtain ⟨j, hj1, rfl, hC, hST, hI, hS, hB⟩ := hrel
      by_cases hj : j < (slotL f).length
      ·have hjl : (j : Int) < ((slotL f).length : Int) := by omega
       have hj2 := slotL_two f;have hj0 : (0 : Int) ≤ (j : Int) := by omega
       have hS0 := hJz hS;obtain ⟨b2, o2, rfl, c0, c1, c2⟩ := slots_at hS hj;obtain ⟨s, hs⟩ : ∃ s, (slotL f)[j] = s := ⟨_, rfl⟩;have hs13 : s.1 < 13 := by rw [← hs]; exact (slotL_low f _ (List.getElem_mem hj)).2
       rw [hs] at c0 c1 c2;obtain ⟨SZ, hSZ⟩ : ∃ SZ, wr.heap.size = SZ := ⟨_, rfl⟩
       have HSB : Hid (∀ V, Below (SZ + 1) (wr.alloc (.cells #[.pointer (sp b s), .int .i64 (sm s), .pointer (sq b s)] 79)) V → V.cell? ⟨SZ, 0, none⟩ = some (.pointer (sp b s)) ∧ V.cell? ⟨SZ, 1, none⟩ = some (.int .i64 (sm s)) ∧ V.cell? ⟨SZ, 2, none⟩ = some (.pointer (sq b s)) ∧ SZ < V.heap.size) := hJz fun V hV => by
        have h0 := heap_alloc_new wr (.cells #[.pointer (sp b s), .int .i64 (sm s), .pointer (sq b s)] 79);rw [hSZ] at h0;have h1 := (hV.block SZ (by omega)).trans h0;refine ⟨?_, ?_, ?_, (Array.getElem?_eq_some_iff.1 h1).1⟩ <;> rw [cell_of_row V SZ _ _ _ (0, 0) h1] <;> rfl
       have hsz1 : (wr.alloc (.cells #[.pointer (sp b s), .int .i64 (sm s), .pointer (sq b s)] 79)).heap.size = SZ + 1 := by rw [World.size_alloc, hSZ]
       have hST2 := zeroL_step (y := y) hj;rw [hST, hs] at hST2;have HST2 := hJz hST2;have hbs : b < SZ := by rw [← hSZ]; exact hC.lt
       have HVA := hJz (value_any b y u s (wr.alloc (.cells #[.pointer (sp b s), .int .i64 (sm s), .pointer (sq b s)] 79)) (hC.below (since_alloc (Below.refl _ _) _)) hs13)
       have HCB : Hid (∀ V, Below (SZ + 1) (wr.alloc (.cells #[.pointer (sp b s), .int .i64 (sm s), .pointer (sq b s)] 79)) V → CB V b y u ∧ V.heap[JT]? = some (.stringIter (bs8 sing) (k + 1)) ∧ Sl V (some ⟨b2, o2, none⟩) (srow b f) ∧ Below b w V) := hJz fun V hV => by
        have h1 : Below wr.heap.size wr V := by
         refine (since_alloc (Below.refl _ wr) (.cells #[.pointer (sp b s), .int .i64 (sm s), .pointer (sq b s)] 79)).trans (hV.mono ?_);rw [hSZ]; omega
        exact ⟨hC.below h1, iter_keep hI h1, hS0.out.below h1, hB.trans (h1.mono (Nat.le_of_lt hC.lt))⟩
       have HSn := hJz hs;have HSZ := hJz hsz1;obtain ⟨x, hx⟩ : ∃ x, y.getD s.1 0 = x := ⟨_, rfl⟩;rw [hx] at HVA HST2;clear hST hST2 hC hI hS hB hsz1 hs hx
       by_cases hx0 : x = 0
       ·subst hx0;go_wp2_with fail
        try simp only [hSZ]
        refine HVA.out.mono ?_;rintro e v1 ⟨rfl, hb1⟩;rw [HSZ.out] at hb1;obtain ⟨hC1, hI1, hS1, hB1⟩ := HCB.out v1 hb1;clear hb1 HVA;go_wp2_with fail;go_roundw
        case rel =>
         refine ⟨j + 1, by omega, by go_num, hC1, ?_, hI1, hS1, hB1⟩;have h := HST2.out;exact (h.trans (by simp)).symm
        case measure => simp [intOf]; omega
       ·have hxn : (x == 0) = false := by simpa using hx0
        have hxn2 : (x != 0) = true := by simpa using hx0
        have hR3 : RES = 3 := by
         have h := HST2.out;rw [decide_eq_false hx0, Bool.false_and] at h;have h2 := HZS.out;rw [h, Bool.false_and] at h2;have h3 := HR2.out;rw [h2, Bool.false_and] at h3;exact h3.symm
        subst hR3;go_wp2_with fail
        try simp only [hSZ]
        refine HVA.out.mono ?_;rintro e v1 ⟨rfl, hb1⟩;rw [HSZ.out] at hb1;obtain ⟨hC1, hI1, hS1, hB1⟩ := HCB.out v1 hb1;clear hb1 HVA hI1 hS1 hC1;go_wp2_with fail;go_ret;exact ⟨rfl, hB1⟩
      ·obtain rfl : j = (slotL f).length := by omega
       have hpos := iter_pos hI
       have hZ3 : zeroF (sing.drop (k + 1)) y = zeroZ y := by
        have h := HZS.out;rw [List.drop_length] at hST;rw [← hST] at h;exact (h.trans (Bool.true_and _)).symm
       clear hST;go_wp2_with fail;go_roundw
       case rel => exact ⟨k + 1, by omega, hI, hC, hZ3, hB⟩
       case measure =>
        rw [hpos];have := HPOS.out;omega
    ·have hnx := next_end sing wr JT k hI hkl;obtain rfl : k = sing.length := by omega
     rw [List.drop_length] at hZF;have hzz : zeroZ y = true := hZF.symm;have hR4 := HR2.out;rw [hzz, Bool.true_and] at hR4;obtain ⟨cv, fv⟩ := hC.gotV;have hltb := hC.lt;rw [HU.out] at cv;clear hZF hzz hC hI
     by_cases h78 : L.contains 78 = true
     ·rw [if_pos h78] at cv;rw [h78, Bool.or_true, if_pos rfl] at hR4;subst hR4;clear h78;go_wp2_with fail;go_ret;exact ⟨rfl, hB⟩
     ·rw [if_neg h78] at cv;have h78 : L.contains 78 = false := by simpa using h78
      rw [h78, Bool.or_false] at hR4;clear h78
      by_cases hn0 : n = 0
      ·subst hn0;rw [if_pos (by decide)] at hR4;subst hR4;go_wp2_with fail;go_ret;exact ⟨rfl, hB⟩
      ·rw [if_neg (by simpa using hn0)] at hR4;subst hR4;have hn1 : (0 : Int) < (n : Int) := by omega
       clear hn0;go_wp2_with fail;go_ret;exact ⟨rfl, hB⟩
end
end Go.Proofs.YtpmnjojednbnpaaGreatDoor
