import Derived.Test.YtpmnjojednbnpaaGreatDoorWf16
set_option maxHeartbeats 16000000
set_option maxRecDepth 100000
set_option linter.unusedVariables false
set_option linter.unusedSimpArgs false
namespace Go.Proofs.YtpmnjojednbnpaaGreatDoor
open Go.ChangeShapes Go.WideShapes Go.ChangeAt Go.RowKit
section
theorem idx_atS : ∀ (zs : List ByteArray) (x : ByteArray) (k : Nat), (k : Int) ≤ Lib.idxFromS zs x k → ∃ j, j < zs.length ∧ zs[j]? = some x ∧ Lib.idxFromS zs x k = ((k + j : Nat) : Int)
 | [], x, k, h => by simp [Lib.idxFromS] at h; omega
 | z :: zs, x, k, h => by
  unfold Lib.idxFromS at h ⊢
  split at h
  ·rename_i hz
   rw [if_pos hz];exact ⟨0, by simp, by simp [hz], by simp⟩
  ·rename_i hz
   rw [if_neg hz];have h2 := idx_rangeS zs x (k + 1);obtain ⟨j, h3, h4, h5⟩ := idx_atS zs x (k + 1) (by omega);exact ⟨j + 1, by simp; omega, by simpa using h4, by rw [h5]; omega⟩
theorem word_op {x : List UInt8} (h : 1 ≤ opB x) : wordB (opB x) = x := by
 have hr := opB_range x;obtain ⟨j, h1, h2, h3⟩ := idx_atS (opsW.map S8) (S8 x) 0 (by unfold opB Lib.idxOfS at h; omega);have e : opB x = (j : Int) + 1 := by unfold opB Lib.idxOfS; rw [h3]; omega
 rw [e] at hr ⊢;unfold wordB;rw [if_pos (by omega)];have e2 : ((j : Int) + 1 - 1).toNat = j := by omega
 rw [e2, List.getD_eq_getElem?_getD];rw [List.getElem?_map] at h2
 cases hj : opsW[j]? with
 | none => rw [hj] at h2; cases h2
 | some l =>
  rw [hj] at h2;injection h2 with h2;exact S8_inj h2
theorem op_word {op : Int} (h : 1 ≤ op ∧ op ≤ 31) : opB (wordB op) = op := by
 have hq : op = 1 ∨ op = 2 ∨ op = 3 ∨ op = 4 ∨ op = 5 ∨ op = 6 ∨ op = 7 ∨ op = 8 ∨ op = 9 ∨ op = 10 ∨ op = 11 ∨ op = 12 ∨ op = 13 ∨ op = 14 ∨ op = 15 ∨ op = 16 ∨ op = 17 ∨ op = 18 ∨ op = 19 ∨ op = 20 ∨ op = 21 ∨ op = 22 ∨ op = 23 ∨ op = 24 ∨ op = 25 ∨ op = 26 ∨ op = 27 ∨ op = 28 ∨ op = 29 ∨ op = 30 ∨ op = 31 := by omega
 clear h
 rcases hq with rfl | rfl | rfl | rfl | rfl | rfl | rfl | rfl | rfl | rfl | rfl | rfl | rfl | rfl | rfl | rfl | rfl | rfl | rfl | rfl | rfl | rfl | rfl | rfl | rfl | rfl | rfl | rfl | rfl | rfl | rfl
 all_goals decide +kernel
theorem OkV.cons {f : Nat} {L : List Nat} {vss : List (List Int)} (h : OkV (f :: L) vss) : ∃ vs r, vss = vs :: r ∧ (f ≠ 78 → vs.length = (slotL f).length) ∧ OkV L r := by
 cases vss with
 | nil => cases h
 | cons vs r => exact ⟨vs, r, rfl, h.1, h.2.2⟩
theorem OkV.nil {vss : List (List Int)} (h : OkV [] vss) : vss = [] := by
 cases vss with
 | nil => rfl
 | cons vs r => cases h
theorem len1W {l : List Int} (h : l.length = 1) : ∃ a, l = [a] := by
 match l, h with
 | [a], _ => exact ⟨a, rfl⟩
theorem len2W {l : List Int} (h : l.length = 2) : ∃ a b, l = [a, b] := by
 match l, h with
 | [a, b], _ => exact ⟨a, b, rfl⟩
theorem lineW_put (op b : Int) (vss : List (List Int)) (h : OkV (fldL op) vss) : lineW (putZ (fldL op) vss [op, b, 0, 0, 0, 0, 0, 0, 0, 0, 0, 0, 0]) (numL (fldL op) vss) = wordB op :: Lib.itoa b :: encL (fldL op) vss ∧ (putZ (fldL op) vss [op, b, 0, 0, 0, 0, 0, 0, 0, 0, 0, 0, 0]).length = 13 := by
 have hl := fldL_cases op
 rcases hl with hl | hl | hl | hl | hl | hl | hl | hl | hl | hl | hl | hl | hl | hl | hl
 ·rw [hl] at h ⊢;obtain ⟨v0, r0, rfl, e0, hk0⟩ := h.cons;obtain ⟨x0, rfl⟩ := len1W (e0 (by decide));obtain ⟨v1, r1, rfl, e1, hk1⟩ := hk0.cons;obtain ⟨x1, rfl⟩ := len1W (e1 (by decide));obtain rfl := hk1.nil;simp [hl, lineW, fldW, putZ, putV, numL, encL, encW, slotL]
 ·rw [hl] at h ⊢;obtain ⟨v0, r0, rfl, e0, hk0⟩ := h.cons;obtain ⟨x0, rfl⟩ := len1W (e0 (by decide));obtain ⟨v1, r1, rfl, e1, hk1⟩ := hk0.cons;obtain ⟨x1, rfl⟩ := len1W (e1 (by decide));obtain ⟨v2, r2, rfl, e2, hk2⟩ := hk1.cons;obtain ⟨x2, rfl⟩ := len1W (e2 (by decide));obtain ⟨v3, r3, rfl, e3, hk3⟩ := hk2.cons;obtain rfl := hk3.nil;simp [hl, lineW, fldW, putZ, putV, numL, encL, encW, slotL]
 ·rw [hl] at h ⊢;obtain ⟨v0, r0, rfl, e0, hk0⟩ := h.cons;obtain ⟨x0, rfl⟩ := len1W (e0 (by decide));obtain ⟨v1, r1, rfl, e1, hk1⟩ := hk0.cons;obtain ⟨x1, rfl⟩ := len1W (e1 (by decide));obtain ⟨v2, r2, rfl, e2, hk2⟩ := hk1.cons;obtain ⟨x2, rfl⟩ := len1W (e2 (by decide));obtain rfl := hk2.nil;simp [hl, lineW, fldW, putZ, putV, numL, encL, encW, slotL]
 ·rw [hl] at h ⊢;obtain ⟨v0, r0, rfl, e0, hk0⟩ := h.cons;obtain ⟨x0, y0, rfl⟩ := len2W (e0 (by decide));obtain ⟨v1, r1, rfl, e1, hk1⟩ := hk0.cons;obtain ⟨x1, rfl⟩ := len1W (e1 (by decide));obtain ⟨v2, r2, rfl, e2, hk2⟩ := hk1.cons;obtain ⟨x2, rfl⟩ := len1W (e2 (by decide));obtain rfl := hk2.nil;simp [hl, lineW, fldW, putZ, putV, numL, encL, encW, slotL]
 ·rw [hl] at h ⊢;obtain ⟨v0, r0, rfl, e0, hk0⟩ := h.cons;obtain ⟨x0, y0, rfl⟩ := len2W (e0 (by decide));obtain rfl := hk0.nil;simp [hl, lineW, fldW, putZ, putV, numL, encL, encW, slotL]
 ·rw [hl] at h ⊢;obtain ⟨v0, r0, rfl, e0, hk0⟩ := h.cons;obtain ⟨x0, y0, rfl⟩ := len2W (e0 (by decide));obtain ⟨v1, r1, rfl, e1, hk1⟩ := hk0.cons;obtain ⟨x1, y1, rfl⟩ := len2W (e1 (by decide));obtain ⟨v2, r2, rfl, e2, hk2⟩ := hk1.cons;obtain ⟨x2, rfl⟩ := len1W (e2 (by decide));obtain ⟨v3, r3, rfl, e3, hk3⟩ := hk2.cons;obtain ⟨x3, rfl⟩ := len1W (e3 (by decide));obtain ⟨v4, r4, rfl, e4, hk4⟩ := hk3.cons;obtain ⟨x4, rfl⟩ := len1W (e4 (by decide));obtain rfl := hk4.nil;simp [hl, lineW, fldW, putZ, putV, numL, encL, encW, slotL]
 ·rw [hl] at h ⊢;obtain ⟨v0, r0, rfl, e0, hk0⟩ := h.cons;obtain ⟨x0, rfl⟩ := len1W (e0 (by decide));obtain rfl := hk0.nil;simp [hl, lineW, fldW, putZ, putV, numL, encL, encW, slotL]
 ·rw [hl] at h ⊢;obtain ⟨v0, r0, rfl, e0, hk0⟩ := h.cons;obtain ⟨x0, y0, rfl⟩ := len2W (e0 (by decide));obtain ⟨v1, r1, rfl, e1, hk1⟩ := hk0.cons;obtain ⟨x1, rfl⟩ := len1W (e1 (by decide));obtain ⟨v2, r2, rfl, e2, hk2⟩ := hk1.cons;obtain rfl := hk2.nil;simp [hl, lineW, fldW, putZ, putV, numL, encL, encW, slotL]
 ·rw [hl] at h ⊢;obtain ⟨v0, r0, rfl, e0, hk0⟩ := h.cons;obtain ⟨x0, rfl⟩ := len1W (e0 (by decide));obtain ⟨v1, r1, rfl, e1, hk1⟩ := hk0.cons;obtain ⟨x1, y1, rfl⟩ := len2W (e1 (by decide));obtain ⟨v2, r2, rfl, e2, hk2⟩ := hk1.cons;obtain ⟨x2, rfl⟩ := len1W (e2 (by decide));obtain rfl := hk2.nil;simp [hl, lineW, fldW, putZ, putV, numL, encL, encW, slotL]
 ·rw [hl] at h ⊢;obtain ⟨v0, r0, rfl, e0, hk0⟩ := h.cons;obtain ⟨x0, rfl⟩ := len1W (e0 (by decide));obtain ⟨v1, r1, rfl, e1, hk1⟩ := hk0.cons;obtain ⟨x1, rfl⟩ := len1W (e1 (by decide));obtain rfl := hk1.nil;simp [hl, lineW, fldW, putZ, putV, numL, encL, encW, slotL]
 ·rw [hl] at h ⊢;obtain ⟨v0, r0, rfl, e0, hk0⟩ := h.cons;obtain ⟨x0, rfl⟩ := len1W (e0 (by decide));obtain ⟨v1, r1, rfl, e1, hk1⟩ := hk0.cons;obtain ⟨x1, rfl⟩ := len1W (e1 (by decide));obtain rfl := hk1.nil;simp [hl, lineW, fldW, putZ, putV, numL, encL, encW, slotL]
 ·rw [hl] at h ⊢;obtain ⟨v0, r0, rfl, e0, hk0⟩ := h.cons;obtain ⟨x0, y0, rfl⟩ := len2W (e0 (by decide));obtain ⟨v1, r1, rfl, e1, hk1⟩ := hk0.cons;obtain ⟨x1, rfl⟩ := len1W (e1 (by decide));obtain ⟨v2, r2, rfl, e2, hk2⟩ := hk1.cons;obtain ⟨x2, rfl⟩ := len1W (e2 (by decide));obtain ⟨v3, r3, rfl, e3, hk3⟩ := hk2.cons;obtain ⟨x3, rfl⟩ := len1W (e3 (by decide));obtain rfl := hk3.nil;simp [hl, lineW, fldW, putZ, putV, numL, encL, encW, slotL]
 ·rw [hl] at h ⊢;obtain ⟨v0, r0, rfl, e0, hk0⟩ := h.cons;obtain ⟨x0, y0, rfl⟩ := len2W (e0 (by decide));obtain ⟨v1, r1, rfl, e1, hk1⟩ := hk0.cons;obtain ⟨x1, y1, rfl⟩ := len2W (e1 (by decide));obtain rfl := hk1.nil;simp [hl, lineW, fldW, putZ, putV, numL, encL, encW, slotL]
 ·rw [hl] at h ⊢;obtain ⟨v0, r0, rfl, e0, hk0⟩ := h.cons;obtain ⟨x0, rfl⟩ := len1W (e0 (by decide));obtain rfl := hk0.nil;simp [hl, lineW, fldW, putZ, putV, numL, encL, encW, slotL]
 ·rw [hl] at h ⊢;obtain rfl := h.nil;simp [hl, lineW, fldW, putZ, putV, numL, encL, encW, slotL]
def valsO (z nums : List Int) (L : List Nat) : List (List Int) := L.map fun f => if f = 78 then nums else (slotL f).map fun s => z.getD s.1 0
theorem encL_vals (z nums : List Int) : ∀ L, encL L (valsO z nums L) = L.flatMap (fldW z nums)
 | [] => rfl
 | f :: L => by
  show encL (f :: L) ((if f = 78 then nums else (slotL f).map fun s => z.getD s.1 0) :: valsO z nums L) = _
  rw [encL, encL_vals z nums L, List.flatMap_cons]
  congr 1
  unfold encW fldW
  split
  ·rfl
  ·rw [List.map_map]; rfl
theorem okV_vals {z nums : List Int} (hz : ∀ i, In64p (z.getD i 0)) (hn : ∀ x ∈ nums, In64p x) : ∀ L, OkV L (valsO z nums L)
 | [] => trivial
 | f :: L => by
  refine ⟨fun hf => by simp only [if_neg hf, List.length_map], fun x hx => ?_, okV_vals hz hn L⟩;have hx : x ∈ (if f = 78 then nums else (slotL f).map fun s => z.getD s.1 0) := hx
  split at hx
  ·exact hn x hx
  ·obtain ⟨s, _, rfl⟩ := List.mem_map.1 hx;exact hz _
theorem put_valsE (z0 z1 z2 z3 z4 z5 z6 z7 z8 z9 z10 z11 z12 : Int) (nums : List Int) (h : isZ [z0, z1, z2, z3, z4, z5, z6, z7, z8, z9, z10, z11, z12] nums.length = true) :
  putZ (fldL z0) (valsO [z0, z1, z2, z3, z4, z5, z6, z7, z8, z9, z10, z11, z12] nums (fldL z0)) [z0, z1, 0, 0, 0, 0, 0, 0, 0, 0, 0, 0, 0] = [z0, z1, z2, z3, z4, z5, z6, z7, z8, z9, z10, z11, z12] ∧ numL (fldL z0) (valsO [z0, z1, z2, z3, z4, z5, z6, z7, z8, z9, z10, z11, z12] nums (fldL z0)) = nums := by
 have hop : 1 ≤ z0 ∧ z0 ≤ 31 := by
  simp only [isZ, Bool.and_eq_true, decide_eq_true_eq] at h;exact ⟨h.1.1.1.1.1, h.1.1.1.1.2.1⟩
 have hq : z0 = 1 ∨ z0 = 2 ∨ z0 = 3 ∨ z0 = 4 ∨ z0 = 5 ∨ z0 = 6 ∨ z0 = 7 ∨ z0 = 8 ∨ z0 = 9 ∨ z0 = 10 ∨ z0 = 11 ∨ z0 = 12 ∨ z0 = 13 ∨ z0 = 14 ∨ z0 = 15 ∨ z0 = 16 ∨ z0 = 17 ∨ z0 = 18 ∨ z0 = 19 ∨ z0 = 20 ∨ z0 = 21 ∨ z0 = 22 ∨ z0 = 23 ∨ z0 = 24 ∨ z0 = 25 ∨ z0 = 26 ∨ z0 = 27 ∨ z0 = 28 ∨ z0 = 29 ∨ z0 = 30 ∨ z0 = 31 := by omega
 clear hop
 rcases hq with rfl | rfl | rfl | rfl | rfl | rfl | rfl | rfl | rfl | rfl | rfl | rfl | rfl | rfl | rfl | rfl | rfl | rfl | rfl | rfl | rfl | rfl | rfl | rfl | rfl | rfl | rfl | rfl | rfl | rfl | rfl
 all_goals
  simp [isZ, wthI, fldL] at h;simp [fldL, valsO, putZ, putV, numL, slotL, *]
theorem wordB_free (op : Int) : (32 : UInt8) ∉ wordB op := by
 unfold wordB
 split
 ·have h : ∀ l ∈ opsW, (32 : UInt8) ∉ l := by decide +kernel
  rw [List.getD_eq_getElem?_getD]
  cases hk : opsW[(op - 1).toNat]? with
  | none => simp
  | some l => exact h l (List.mem_of_getElem? hk)
 ·simp
theorem join_free {c : UInt8} (hc : c ≠ 46) : ∀ (l : List (List UInt8)), (∀ x ∈ l, c ∉ x) → c ∉ Lib.join l [46]
 | [], _ => by simp [Lib.join]
 | [x], h => by rw [Lib.join_one]; exact h x (by simp)
 | x :: y :: r, h => by
  have e : Lib.join (x :: y :: r) [46] = x ++ 46 :: Lib.join (y :: r) [46] := by
   rw [Lib.join_cons, Lib.join_cons]; simp [Lib.joinTail]
  rw [e];intro hm
  rcases List.mem_append.1 hm with hm | hm
  ·exact h x (by simp) hm
  ·rcases List.mem_cons.1 hm with hm | hm
   ·exact hc hm
   ·exact join_free hc (y :: r) (fun z hz => h z (by simp [List.mem_cons.1 hz])) hm
theorem lineW_free (z nums : List Int) : ∀ x ∈ lineW z nums, (32 : UInt8) ∉ x := by
 intro x hx;unfold lineW at hx
 rcases List.mem_cons.1 hx with rfl | hx
 ·exact wordB_free _
 ·rcases List.mem_cons.1 hx with rfl | hx
  ·exact itoa_free _ (.inl rfl)
  ·obtain ⟨f, _, hx⟩ := List.mem_flatMap.1 hx;unfold fldW at hx
   split at hx
   ·obtain ⟨n, _, rfl⟩ := List.mem_map.1 hx;exact itoa_free n (.inl rfl)
   ·rw [List.mem_singleton.1 hx];refine join_free (by decide) _ fun y hy => ?_;obtain ⟨s, _, rfl⟩ := List.mem_map.1 hy;exact itoa_free _ (.inl rfl)
theorem spl_line (z nums : List Int) : splD 32 (lineB z nums) = lineW z nums := splD_join 32 _ (by unfold lineW; simp) (lineW_free z nums)
theorem docC_lineE (z0 z1 z2 z3 z4 z5 z6 z7 z8 z9 z10 z11 z12 : Int) (nums : List Int) (hz : ∀ i, In64p (([z0, z1, z2, z3, z4, z5, z6, z7, z8, z9, z10, z11, z12] : List Int).getD i 0)) (hn : ∀ x ∈ nums, In64p x) (h : isZ [z0, z1, z2, z3, z4, z5, z6, z7, z8, z9, z10, z11, z12] nums.length = true) : docC (lineB [z0, z1, z2, z3, z4, z5, z6, z7, z8, z9, z10, z11, z12] nums) = some ⟨[z0, z1, z2, z3, z4, z5, z6, z7, z8, z9, z10, z11, z12], nums, []⟩ := by
 have hop : 1 ≤ z0 ∧ z0 ≤ 31 := by
  simp only [isZ, Bool.and_eq_true, decide_eq_true_eq] at h;exact ⟨h.1.1.1.1.1, h.1.1.1.1.2.1⟩
 have hz1 : In64p z1 := hz 1;unfold docC;rw [spl_line];unfold lineW;simp only [List.getD_cons_zero, List.getD_cons_succ];rw [numD_itoa hz1, op_word hop, ← encL_vals];simp only;rw [docF_enc _ _ _ _ (fldL_ok z0).1 (fldL_ok z0).2 (okV_vals hz hn _)];obtain ⟨e1, e2⟩ := put_valsE z0 z1 z2 z3 z4 z5 z6 z7 z8 z9 z10 z11 z12 nums h;simp only [List.nil_append];rw [e1, e2, if_pos ⟨trivial, h⟩]
theorem docC_line {z nums : List Int} (hl : z.length = 13) (hz : ∀ i, In64p (z.getD i 0)) (hn : ∀ x ∈ nums, In64p x) (h : isZ z nums.length = true) : docC (lineB z nums) = some ⟨z, nums, []⟩ := by
 match z, hl with
 | [z0, z1, z2, z3, z4, z5, z6, z7, z8, z9, z10, z11, z12], _ => exact docC_lineE z0 z1 z2 z3 z4 z5 z6 z7 z8 z9 z10 z11 z12 nums hz hn h
theorem docC_some {l : List UInt8} {d : Dz} (h : docC l = some d) : lineB d.z d.nums = l ∧ parseZ l = ⟨d.z, d.nums, [], false⟩ ∧ isZ d.z d.nums.length = true ∧ d.z.length = 13 ∧ d.P = [] := by
 unfold docC at h
 cases hs : splD 32 l with
 | nil => rw [hs] at h; cases h
 | cons x r =>
  rw [hs] at h
  cases r with
  | nil => cases h
  | cons y r =>
   simp only at h
   cases hy : numD y with
   | none => rw [hy] at h; cases h
   | some b =>
    rw [hy] at h;simp only at h
    cases hf : docF (fldL (opB x)) ⟨[opB x, b, 0, 0, 0, 0, 0, 0, 0, 0, 0, 0, 0], [], r⟩ with
    | none => rw [hf] at h; cases h
    | some d1 =>
     rw [hf] at h;simp only at h
     split at h
     ·rename_i hc
      injection h with h;subst h;obtain ⟨vss, h1, h2, h3, h4⟩ := docF_some _ _ _ (fldL_ok _).1 hf;have h5 := stepZ_doc _ _ _ (fldL_ok _).1 (fldL_ok _).2 rfl hf;simp only at h2 h3 h4 h5;rw [hc.1, List.append_nil] at h2;rw [List.nil_append] at h4;obtain ⟨i1, e1⟩ := numD_iff.1 hy;obtain ⟨g1, g2⟩ := lineW_put (opB x) b vss h1;rw [← h3] at g1 g2;rw [← h4] at g1
      have hop : 1 ≤ opB x := by
       have h0 : d1.z.getD 0 0 = opB x := by
        rw [h3];have hl := fldL_cases (opB x);clear h2 h3 h4 h5 hc hf g1 g2 hs
        rcases hl with hl | hl | hl | hl | hl | hl | hl | hl | hl | hl | hl | hl | hl | hl | hl
        ·rw [hl] at h1 ⊢;obtain ⟨v0, r0, rfl, e0, hk0⟩ := h1.cons;obtain ⟨x0, rfl⟩ := len1W (e0 (by decide));obtain ⟨v1, r1, rfl, e1, hk1⟩ := hk0.cons;obtain ⟨x1, rfl⟩ := len1W (e1 (by decide));obtain rfl := hk1.nil;simp [putZ, putV, slotL]
        ·rw [hl] at h1 ⊢;obtain ⟨v0, r0, rfl, e0, hk0⟩ := h1.cons;obtain ⟨x0, rfl⟩ := len1W (e0 (by decide));obtain ⟨v1, r1, rfl, e1, hk1⟩ := hk0.cons;obtain ⟨x1, rfl⟩ := len1W (e1 (by decide));obtain ⟨v2, r2, rfl, e2, hk2⟩ := hk1.cons;obtain ⟨x2, rfl⟩ := len1W (e2 (by decide));obtain ⟨v3, r3, rfl, e3, hk3⟩ := hk2.cons;obtain rfl := hk3.nil;simp [putZ, putV, slotL]
        ·rw [hl] at h1 ⊢;obtain ⟨v0, r0, rfl, e0, hk0⟩ := h1.cons;obtain ⟨x0, rfl⟩ := len1W (e0 (by decide));obtain ⟨v1, r1, rfl, e1, hk1⟩ := hk0.cons;obtain ⟨x1, rfl⟩ := len1W (e1 (by decide));obtain ⟨v2, r2, rfl, e2, hk2⟩ := hk1.cons;obtain ⟨x2, rfl⟩ := len1W (e2 (by decide));obtain rfl := hk2.nil;simp [putZ, putV, slotL]
        ·rw [hl] at h1 ⊢;obtain ⟨v0, r0, rfl, e0, hk0⟩ := h1.cons;obtain ⟨x0, y0, rfl⟩ := len2W (e0 (by decide));obtain ⟨v1, r1, rfl, e1, hk1⟩ := hk0.cons;obtain ⟨x1, rfl⟩ := len1W (e1 (by decide));obtain ⟨v2, r2, rfl, e2, hk2⟩ := hk1.cons;obtain ⟨x2, rfl⟩ := len1W (e2 (by decide));obtain rfl := hk2.nil;simp [putZ, putV, slotL]
        ·rw [hl] at h1 ⊢;obtain ⟨v0, r0, rfl, e0, hk0⟩ := h1.cons;obtain ⟨x0, y0, rfl⟩ := len2W (e0 (by decide));obtain rfl := hk0.nil;simp [putZ, putV, slotL]
        ·rw [hl] at h1 ⊢;obtain ⟨v0, r0, rfl, e0, hk0⟩ := h1.cons;obtain ⟨x0, y0, rfl⟩ := len2W (e0 (by decide));obtain ⟨v1, r1, rfl, e1, hk1⟩ := hk0.cons;obtain ⟨x1, y1, rfl⟩ := len2W (e1 (by decide));obtain ⟨v2, r2, rfl, e2, hk2⟩ := hk1.cons;obtain ⟨x2, rfl⟩ := len1W (e2 (by decide));obtain ⟨v3, r3, rfl, e3, hk3⟩ := hk2.cons;obtain ⟨x3, rfl⟩ := len1W (e3 (by decide));obtain ⟨v4, r4, rfl, e4, hk4⟩ := hk3.cons;obtain ⟨x4, rfl⟩ := len1W (e4 (by decide));obtain rfl := hk4.nil;simp [putZ, putV, slotL]
        ·rw [hl] at h1 ⊢;obtain ⟨v0, r0, rfl, e0, hk0⟩ := h1.cons;obtain ⟨x0, rfl⟩ := len1W (e0 (by decide));obtain rfl := hk0.nil;simp [putZ, putV, slotL]
        ·rw [hl] at h1 ⊢;obtain ⟨v0, r0, rfl, e0, hk0⟩ := h1.cons;obtain ⟨x0, y0, rfl⟩ := len2W (e0 (by decide));obtain ⟨v1, r1, rfl, e1, hk1⟩ := hk0.cons;obtain ⟨x1, rfl⟩ := len1W (e1 (by decide));obtain ⟨v2, r2, rfl, e2, hk2⟩ := hk1.cons;obtain rfl := hk2.nil;simp [putZ, putV, slotL]
        ·rw [hl] at h1 ⊢;obtain ⟨v0, r0, rfl, e0, hk0⟩ := h1.cons;obtain ⟨x0, rfl⟩ := len1W (e0 (by decide));obtain ⟨v1, r1, rfl, e1, hk1⟩ := hk0.cons;obtain ⟨x1, y1, rfl⟩ := len2W (e1 (by decide));obtain ⟨v2, r2, rfl, e2, hk2⟩ := hk1.cons;obtain ⟨x2, rfl⟩ := len1W (e2 (by decide));obtain rfl := hk2.nil;simp [putZ, putV, slotL]
        ·rw [hl] at h1 ⊢;obtain ⟨v0, r0, rfl, e0, hk0⟩ := h1.cons;obtain ⟨x0, rfl⟩ := len1W (e0 (by decide));obtain ⟨v1, r1, rfl, e1, hk1⟩ := hk0.cons;obtain ⟨x1, rfl⟩ := len1W (e1 (by decide));obtain rfl := hk1.nil;simp [putZ, putV, slotL]
        ·rw [hl] at h1 ⊢;obtain ⟨v0, r0, rfl, e0, hk0⟩ := h1.cons;obtain ⟨x0, rfl⟩ := len1W (e0 (by decide));obtain ⟨v1, r1, rfl, e1, hk1⟩ := hk0.cons;obtain ⟨x1, rfl⟩ := len1W (e1 (by decide));obtain rfl := hk1.nil;simp [putZ, putV, slotL]
        ·rw [hl] at h1 ⊢;obtain ⟨v0, r0, rfl, e0, hk0⟩ := h1.cons;obtain ⟨x0, y0, rfl⟩ := len2W (e0 (by decide));obtain ⟨v1, r1, rfl, e1, hk1⟩ := hk0.cons;obtain ⟨x1, rfl⟩ := len1W (e1 (by decide));obtain ⟨v2, r2, rfl, e2, hk2⟩ := hk1.cons;obtain ⟨x2, rfl⟩ := len1W (e2 (by decide));obtain ⟨v3, r3, rfl, e3, hk3⟩ := hk2.cons;obtain ⟨x3, rfl⟩ := len1W (e3 (by decide));obtain rfl := hk3.nil;simp [putZ, putV, slotL]
        ·rw [hl] at h1 ⊢;obtain ⟨v0, r0, rfl, e0, hk0⟩ := h1.cons;obtain ⟨x0, y0, rfl⟩ := len2W (e0 (by decide));obtain ⟨v1, r1, rfl, e1, hk1⟩ := hk0.cons;obtain ⟨x1, y1, rfl⟩ := len2W (e1 (by decide));obtain rfl := hk1.nil;simp [putZ, putV, slotL]
        ·rw [hl] at h1 ⊢;obtain ⟨v0, r0, rfl, e0, hk0⟩ := h1.cons;obtain ⟨x0, rfl⟩ := len1W (e0 (by decide));obtain rfl := hk0.nil;simp [putZ, putV, slotL]
        ·rw [hl] at h1 ⊢;obtain rfl := h1.nil;simp [putZ, putV, slotL]
       have hi := hc.2;unfold isZ at hi;simp only [Bool.and_eq_true, decide_eq_true_eq] at hi;omega
      rw [word_op hop, e1, ← h2, ← hs] at g1
      refine ⟨?_, ?_, hc.2, g2, hc.1⟩
      ·unfold lineB;rw [g1, join_splD]
      ·unfold parseZ beginZ;rw [hs];simp only [wordP];rw [← e1, valP_itoa i1];simp only [Bool.or_false];rw [h5, hc.1]
     ·cases h
theorem foldZ_in : ∀ (L : List Nat) (d : Pz), (∀ i, In64p (d.z.getD i 0)) → (∀ x ∈ d.nums, In64p x) → d.z.length = 13 → (∀ i, In64p ((L.foldl stepZ d).z.getD i 0)) ∧ (∀ x ∈ (L.foldl stepZ d).nums, In64p x) ∧ (L.foldl stepZ d).z.length = 13
 | [], d, h1, h2, h3 => ⟨h1, h2, h3⟩
 | f :: L, d, h1, h2, h3 => by
  refine foldZ_in L (stepZ d f) (fillP_in h1) ?_ ?_
  ·unfold stepZ;simp only
   split
   ·exact valsP_in _
   ·exact h2
  ·have hp : ∀ (l : List ((Nat × Int) × List UInt8)) (q : List Int × Bool), (l.foldl putS q).1.length = q.1.length := by
    intro l
    induction l with
    | nil => intro q; rfl
    | cons s r ih => intro q; rw [List.foldl_cons, ih]; simp [putS]
   unfold stepZ fillP;simp only
   split
   ·exact h3
   ·split
    ·simp only [hp]; exact h3
    ·exact h3
theorem parseZ_in (l : List UInt8) : (∀ i, In64p ((parseZ l).z.getD i 0)) ∧ (∀ x ∈ (parseZ l).nums, In64p x) ∧ (parseZ l).z.length = 13 := by
 unfold parseZ;refine foldZ_in _ _ (fun i => ?_) (fun x hx => by cases hx) rfl;have h1 := opB_range (wordP (splD 32 l) false).1;have h2 := valP_in (wordP (wordP (splD 32 l) false).2.1 (wordP (splD 32 l) false).2.2).1;unfold beginZ;simp only
 match i with
 | 0 => exact ⟨by simp only [List.getD_cons_zero]; omega, by simp only [List.getD_cons_zero]; omega⟩
 | 1 => exact h2
 | k + 2 =>
  have e : ∀ k : Nat, ([0, 0, 0, 0, 0, 0, 0, 0, 0, 0, 0] : List Int).getD k 0 = 0 := fun k => by
   rw [List.getD_eq_getElem?_getD]
   cases hk : ([0, 0, 0, 0, 0, 0, 0, 0, 0, 0, 0] : List Int)[k]? with
   | none => rfl
   | some v =>
    have hm := List.mem_of_getElem? hk;simp at hm;rw [hm]; rfl
  simp only [List.getD_cons_succ];rw [e k];exact ⟨by decide, by decide⟩
theorem docC_ok (l : List UInt8) : docC l = if okP l = true then some ⟨(parseZ l).z, (parseZ l).nums, []⟩ else none := by
 split
 ·rename_i h
  obtain ⟨h1, h2, h3⟩ := parseZ_in l;unfold okP at h;simp only [Bool.and_eq_true, Bool.not_eq_true', decide_eq_true_eq] at h;have hi := h.2.1;rw [ok_is h3] at hi;have := docC_line h3 h1 h2 hi;rw [h.2.2] at this;exact this
 ·rename_i h
  cases hd : docC l with
  | none => rfl
  | some d =>
   exfalso
   obtain ⟨h1, h2, h3, h4, h5⟩ := docC_some hd
   apply h
   unfold okP;rw [h2];simp only [ok_is h4, h3, h1];rfl
theorem parse_line {z nums : List Int} (hl : z.length = 13) (hz : ∀ i, In64p (z.getD i 0)) (hn : ∀ x ∈ nums, In64p x) (h : okZ z nums.length = true) : okP (lineB z nums) = true ∧ (parseZ (lineB z nums)).z = z ∧ (parseZ (lineB z nums)).nums = nums := by
 rw [ok_is hl] at h;have hd := docC_line hl hz hn h;obtain ⟨h1, h2, h3, h4, h5⟩ := docC_some hd;simp only at h1 h2 h3 h4;refine ⟨?_, by rw [h2], by rw [h2]⟩;unfold okP;rw [h2];simp only [ok_is h4, h3];simp
end
end Go.Proofs.YtpmnjojednbnpaaGreatDoor
