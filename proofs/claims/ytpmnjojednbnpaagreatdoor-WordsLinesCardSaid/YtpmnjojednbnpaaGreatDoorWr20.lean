import Derived.Test.YtpmnjojednbnpaaGreatDoorWr12
import Derived.Lib.Builder
import Derived.Test.YtpmnjojednbnpaaGreatDoorWr01
import Derived.Deep.AppendSrc
import Derived.Deep.Upon
import Derived.Test.YtpmnjojednbnpaaGreatDoorWr04
import Derived.Deep.CutBlock
import Derived.Deep.CutRange
import Derived.Deep.DeepCutAuto
import Derived.Test.YtpmnjojednbnpaaGreatDoorWr07
section
namespace Go.Proofs.YtpmnjojednbnpaaGreatDoor
open Go.ChangeShapes Go.WideShapes Go.ChangeAt Go.RowKit
set_option linter.unusedVariables false
set_option linter.unusedSimpArgs false

theorem idx_atS : ∀ (zs : List ByteArray) (x : ByteArray) (k : Nat), (k : Int) ≤ Lib.idxFromS zs x k → ∃ j, j < zs.length ∧ zs[j]? = some x ∧ Lib.idxFromS zs x k = ((k + j : Nat) : Int)
  | [], x, k, h => by simp [Lib.idxFromS] at h; omega
  | z :: zs, x, k, h => by
    unfold Lib.idxFromS at h ⊢
    split at h
    · rename_i hz
      rw [if_pos hz]
      exact ⟨0, by simp, by simp [hz], by simp⟩
    · rename_i hz
      rw [if_neg hz]
      have h2 := idx_rangeS zs x (k + 1)
      obtain ⟨j, h3, h4, h5⟩ := idx_atS zs x (k + 1) (by omega)
      exact ⟨j + 1, by simp; omega, by simpa using h4, by rw [h5]; omega⟩
theorem word_op {x : List UInt8} (h : 1 ≤ opB x) : wordB (opB x) = x := by
  have hr := opB_range x
  obtain ⟨j, h1, h2, h3⟩ := idx_atS (opsW.map S8) (S8 x) 0 (by unfold opB Lib.idxOfS at h; omega)
  have e : opB x = (j : Int) + 1 := by unfold opB Lib.idxOfS; rw [h3]; omega
  rw [e] at hr ⊢
  unfold wordB
  rw [if_pos (by omega)]
  have e2 : ((j : Int) + 1 - 1).toNat = j := by omega
  rw [e2, List.getD_eq_getElem?_getD]
  rw [List.getElem?_map] at h2
  cases hj : opsW[j]? with
  | none => rw [hj] at h2; cases h2
  | some l =>
    rw [hj] at h2
    injection h2 with h2
    exact S8_inj h2
theorem op_word {op : Int} (h : 1 ≤ op ∧ op ≤ 31) : opB (wordB op) = op := by
  have hq : op = 1 ∨ op = 2 ∨ op = 3 ∨ op = 4 ∨ op = 5 ∨ op = 6 ∨ op = 7 ∨ op = 8 ∨ op = 9 ∨ op = 10 ∨ op = 11 ∨ op = 12 ∨ op = 13 ∨ op = 14 ∨ op = 15 ∨ op = 16 ∨ op = 17 ∨ op = 18 ∨ op = 19 ∨ op = 20 ∨ op = 21 ∨ op = 22 ∨ op = 23 ∨ op = 24 ∨ op = 25 ∨ op = 26 ∨ op = 27 ∨ op = 28 ∨ op = 29 ∨ op = 30 ∨ op = 31 := by omega
  clear h
  rcases hq with rfl | rfl | rfl | rfl | rfl | rfl | rfl | rfl | rfl | rfl | rfl | rfl | rfl | rfl | rfl | rfl | rfl | rfl | rfl | rfl | rfl | rfl | rfl | rfl | rfl | rfl | rfl | rfl | rfl | rfl | rfl
  all_goals decide +kernel
theorem OkV.cons {f : Nat} {L : List Nat} {vss : List (List Int)} (h : OkV (f :: L) vss) : ∃ vs r, vss = vs :: r ∧ (f ≠ 78 → vs.length = (slotL f).length) ∧ OkV L r := by
  cases vss with
  | nil => cases h
  | cons vs r => exact ⟨vs, r, rfl, h.1, h.2.2⟩
theorem OkV.nil {vss : List (List Int)} (h : OkV [] vss) : vss = [] := by
  cases vss with
  | nil => rfl
  | cons vs r => cases h
theorem len1W {l : List Int} (h : l.length = 1) : ∃ a, l = [a] := by
  match l, h with
  | [a], _ => exact ⟨a, rfl⟩
theorem len2W {l : List Int} (h : l.length = 2) : ∃ a b, l = [a, b] := by
  match l, h with
  | [a, b], _ => exact ⟨a, b, rfl⟩
set_option maxHeartbeats 4000000 in
theorem lineW_put (op b : Int) (vss : List (List Int)) (h : OkV (fldL op) vss) : lineW (putZ (fldL op) vss [op, b, 0, 0, 0, 0, 0, 0, 0, 0, 0, 0, 0]) (numL (fldL op) vss) = wordB op :: Lib.itoa b :: encL (fldL op) vss ∧ (putZ (fldL op) vss [op, b, 0, 0, 0, 0, 0, 0, 0, 0, 0, 0, 0]).length = 13 := by
  have hl := fldL_cases op
  rcases hl with hl | hl | hl | hl | hl | hl | hl | hl | hl | hl | hl | hl | hl | hl | hl
  · rw [hl] at h ⊢
    obtain ⟨v0, r0, rfl, e0, hk0⟩ := h.cons
    obtain ⟨x0, rfl⟩ := len1W (e0 (by decide))
    obtain ⟨v1, r1, rfl, e1, hk1⟩ := hk0.cons
    obtain ⟨x1, rfl⟩ := len1W (e1 (by decide))
    obtain rfl := hk1.nil
    simp [hl, lineW, fldW, putZ, putV, numL, encL, encW, slotL]
  · rw [hl] at h ⊢
    obtain ⟨v0, r0, rfl, e0, hk0⟩ := h.cons
    obtain ⟨x0, rfl⟩ := len1W (e0 (by decide))
    obtain ⟨v1, r1, rfl, e1, hk1⟩ := hk0.cons
    obtain ⟨x1, rfl⟩ := len1W (e1 (by decide))
    obtain ⟨v2, r2, rfl, e2, hk2⟩ := hk1.cons
    obtain ⟨x2, rfl⟩ := len1W (e2 (by decide))
    obtain ⟨v3, r3, rfl, e3, hk3⟩ := hk2.cons
    obtain rfl := hk3.nil
    simp [hl, lineW, fldW, putZ, putV, numL, encL, encW, slotL]
  · rw [hl] at h ⊢
    obtain ⟨v0, r0, rfl, e0, hk0⟩ := h.cons
    obtain ⟨x0, rfl⟩ := len1W (e0 (by decide))
    obtain ⟨v1, r1, rfl, e1, hk1⟩ := hk0.cons
    obtain ⟨x1, rfl⟩ := len1W (e1 (by decide))
    obtain ⟨v2, r2, rfl, e2, hk2⟩ := hk1.cons
    obtain ⟨x2, rfl⟩ := len1W (e2 (by decide))
    obtain rfl := hk2.nil
    simp [hl, lineW, fldW, putZ, putV, numL, encL, encW, slotL]
  · rw [hl] at h ⊢
    obtain ⟨v0, r0, rfl, e0, hk0⟩ := h.cons
    obtain ⟨x0, y0, rfl⟩ := len2W (e0 (by decide))
    obtain ⟨v1, r1, rfl, e1, hk1⟩ := hk0.cons
    obtain ⟨x1, rfl⟩ := len1W (e1 (by decide))
    obtain ⟨v2, r2, rfl, e2, hk2⟩ := hk1.cons
    obtain ⟨x2, rfl⟩ := len1W (e2 (by decide))
    obtain rfl := hk2.nil
    simp [hl, lineW, fldW, putZ, putV, numL, encL, encW, slotL]
  · rw [hl] at h ⊢
    obtain ⟨v0, r0, rfl, e0, hk0⟩ := h.cons
    obtain ⟨x0, y0, rfl⟩ := len2W (e0 (by decide))
    obtain rfl := hk0.nil
    simp [hl, lineW, fldW, putZ, putV, numL, encL, encW, slotL]
  · rw [hl] at h ⊢
    obtain ⟨v0, r0, rfl, e0, hk0⟩ := h.cons
    obtain ⟨x0, y0, rfl⟩ := len2W (e0 (by decide))
    obtain ⟨v1, r1, rfl, e1, hk1⟩ := hk0.cons
    obtain ⟨x1, y1, rfl⟩ := len2W (e1 (by decide))
    obtain ⟨v2, r2, rfl, e2, hk2⟩ := hk1.cons
    obtain ⟨x2, rfl⟩ := len1W (e2 (by decide))
    obtain ⟨v3, r3, rfl, e3, hk3⟩ := hk2.cons
    obtain ⟨x3, rfl⟩ := len1W (e3 (by decide))
    obtain ⟨v4, r4, rfl, e4, hk4⟩ := hk3.cons
    obtain ⟨x4, rfl⟩ := len1W (e4 (by decide))
    obtain rfl := hk4.nil
    simp [hl, lineW, fldW, putZ, putV, numL, encL, encW, slotL]
  · rw [hl] at h ⊢
    obtain ⟨v0, r0, rfl, e0, hk0⟩ := h.cons
    obtain ⟨x0, rfl⟩ := len1W (e0 (by decide))
    obtain rfl := hk0.nil
    simp [hl, lineW, fldW, putZ, putV, numL, encL, encW, slotL]
  · rw [hl] at h ⊢
    obtain ⟨v0, r0, rfl, e0, hk0⟩ := h.cons
    obtain ⟨x0, y0, rfl⟩ := len2W (e0 (by decide))
    obtain ⟨v1, r1, rfl, e1, hk1⟩ := hk0.cons
    obtain ⟨x1, rfl⟩ := len1W (e1 (by decide))
    obtain ⟨v2, r2, rfl, e2, hk2⟩ := hk1.cons
    obtain rfl := hk2.nil
    simp [hl, lineW, fldW, putZ, putV, numL, encL, encW, slotL]
  · rw [hl] at h ⊢
    obtain ⟨v0, r0, rfl, e0, hk0⟩ := h.cons
    obtain ⟨x0, rfl⟩ := len1W (e0 (by decide))
    obtain ⟨v1, r1, rfl, e1, hk1⟩ := hk0.cons
    obtain ⟨x1, y1, rfl⟩ := len2W (e1 (by decide))
    obtain ⟨v2, r2, rfl, e2, hk2⟩ := hk1.cons
    obtain ⟨x2, rfl⟩ := len1W (e2 (by decide))
    obtain rfl := hk2.nil
    simp [hl, lineW, fldW, putZ, putV, numL, encL, encW, slotL]
  · rw [hl] at h ⊢
    obtain ⟨v0, r0, rfl, e0, hk0⟩ := h.cons
    obtain ⟨x0, rfl⟩ := len1W (e0 (by decide))
    obtain ⟨v1, r1, rfl, e1, hk1⟩ := hk0.cons
    obtain ⟨x1, rfl⟩ := len1W (e1 (by decide))
    obtain rfl := hk1.nil
    simp [hl, lineW, fldW, putZ, putV, numL, encL, encW, slotL]
  · rw [hl] at h ⊢
    obtain ⟨v0, r0, rfl, e0, hk0⟩ := h.cons
    obtain ⟨x0, rfl⟩ := len1W (e0 (by decide))
    obtain ⟨v1, r1, rfl, e1, hk1⟩ := hk0.cons
    obtain ⟨x1, rfl⟩ := len1W (e1 (by decide))
    obtain rfl := hk1.nil
    simp [hl, lineW, fldW, putZ, putV, numL, encL, encW, slotL]
  · rw [hl] at h ⊢
    obtain ⟨v0, r0, rfl, e0, hk0⟩ := h.cons
    obtain ⟨x0, y0, rfl⟩ := len2W (e0 (by decide))
    obtain ⟨v1, r1, rfl, e1, hk1⟩ := hk0.cons
    obtain ⟨x1, rfl⟩ := len1W (e1 (by decide))
    obtain ⟨v2, r2, rfl, e2, hk2⟩ := hk1.cons
    obtain ⟨x2, rfl⟩ := len1W (e2 (by decide))
    obtain ⟨v3, r3, rfl, e3, hk3⟩ := hk2.cons
    obtain ⟨x3, rfl⟩ := len1W (e3 (by decide))
    obtain rfl := hk3.nil
    simp [hl, lineW, fldW, putZ, putV, numL, encL, encW, slotL]
  · rw [hl] at h ⊢
    obtain ⟨v0, r0, rfl, e0, hk0⟩ := h.cons
    obtain ⟨x0, y0, rfl⟩ := len2W (e0 (by decide))
    obtain ⟨v1, r1, rfl, e1, hk1⟩ := hk0.cons
    obtain ⟨x1, y1, rfl⟩ := len2W (e1 (by decide))
    obtain rfl := hk1.nil
    simp [hl, lineW, fldW, putZ, putV, numL, encL, encW, slotL]
  · rw [hl] at h ⊢
    obtain ⟨v0, r0, rfl, e0, hk0⟩ := h.cons
    obtain ⟨x0, rfl⟩ := len1W (e0 (by decide))
    obtain rfl := hk0.nil
    simp [hl, lineW, fldW, putZ, putV, numL, encL, encW, slotL]
  · rw [hl] at h ⊢
    obtain rfl := h.nil
    simp [hl, lineW, fldW, putZ, putV, numL, encL, encW, slotL]
def valsO (z nums : List Int) (L : List Nat) : List (List Int) := L.map fun f => if f = 78 then nums else (slotL f).map fun s => z.getD s.1 0
theorem encL_vals (z nums : List Int) : ∀ L, encL L (valsO z nums L) = L.flatMap (fldW z nums)
  | [] => rfl
  | f :: L => by
    show encL (f :: L) ((if f = 78 then nums else (slotL f).map fun s => z.getD s.1 0) :: valsO z nums L) = _
    rw [encL, encL_vals z nums L, List.flatMap_cons]
    congr 1
    unfold encW fldW
    split
    · rfl
    · rw [List.map_map]; rfl
theorem okV_vals {z nums : List Int} (hz : ∀ i, In64p (z.getD i 0)) (hn : ∀ x ∈ nums, In64p x) : ∀ L, OkV L (valsO z nums L)
  | [] => trivial
  | f :: L => by
    refine ⟨fun hf => by simp only [if_neg hf, List.length_map], fun x hx => ?_, okV_vals hz hn L⟩
    have hx : x ∈ (if f = 78 then nums else (slotL f).map fun s => z.getD s.1 0) := hx
    split at hx
    · exact hn x hx
    · obtain ⟨s, _, rfl⟩ := List.mem_map.1 hx
      exact hz _
set_option maxHeartbeats 4000000 in
theorem put_valsE (z0 z1 z2 z3 z4 z5 z6 z7 z8 z9 z10 z11 z12 : Int) (nums : List Int) (h : isZ [z0, z1, z2, z3, z4, z5, z6, z7, z8, z9, z10, z11, z12] nums.length = true) :
    putZ (fldL z0) (valsO [z0, z1, z2, z3, z4, z5, z6, z7, z8, z9, z10, z11, z12] nums (fldL z0)) [z0, z1, 0, 0, 0, 0, 0, 0, 0, 0, 0, 0, 0] = [z0, z1, z2, z3, z4, z5, z6, z7, z8, z9, z10, z11, z12] ∧ numL (fldL z0) (valsO [z0, z1, z2, z3, z4, z5, z6, z7, z8, z9, z10, z11, z12] nums (fldL z0)) = nums := by
  have hop : 1 ≤ z0 ∧ z0 ≤ 31 := by
    simp only [isZ, Bool.and_eq_true, decide_eq_true_eq] at h
    exact ⟨h.1.1.1.1.1, h.1.1.1.1.2.1⟩
  have hq : z0 = 1 ∨ z0 = 2 ∨ z0 = 3 ∨ z0 = 4 ∨ z0 = 5 ∨ z0 = 6 ∨ z0 = 7 ∨ z0 = 8 ∨ z0 = 9 ∨ z0 = 10 ∨ z0 = 11 ∨ z0 = 12 ∨ z0 = 13 ∨ z0 = 14 ∨ z0 = 15 ∨ z0 = 16 ∨ z0 = 17 ∨ z0 = 18 ∨ z0 = 19 ∨ z0 = 20 ∨ z0 = 21 ∨ z0 = 22 ∨ z0 = 23 ∨ z0 = 24 ∨ z0 = 25 ∨ z0 = 26 ∨ z0 = 27 ∨ z0 = 28 ∨ z0 = 29 ∨ z0 = 30 ∨ z0 = 31 := by omega
  clear hop
  rcases hq with rfl | rfl | rfl | rfl | rfl | rfl | rfl | rfl | rfl | rfl | rfl | rfl | rfl | rfl | rfl | rfl | rfl | rfl | rfl | rfl | rfl | rfl | rfl | rfl | rfl | rfl | rfl | rfl | rfl | rfl | rfl
  all_goals
    simp [isZ, wthI, fldL] at h
    simp [fldL, valsO, putZ, putV, numL, slotL, *]
theorem wordB_free (op : Int) : (32 : UInt8) ∉ wordB op := by
  unfold wordB
  split
  · have h : ∀ l ∈ opsW, (32 : UInt8) ∉ l := by decide +kernel
    rw [List.getD_eq_getElem?_getD]
    cases hk : opsW[(op - 1).toNat]? with
    | none => simp
    | some l => exact h l (List.mem_of_getElem? hk)
  · simp
theorem join_free {c : UInt8} (hc : c ≠ 46) : ∀ (l : List (List UInt8)), (∀ x ∈ l, c ∉ x) → c ∉ Lib.join l [46]
  | [], _ => by simp [Lib.join]
  | [x], h => by rw [Lib.join_one]; exact h x (by simp)
  | x :: y :: r, h => by
    have e : Lib.join (x :: y :: r) [46] = x ++ 46 :: Lib.join (y :: r) [46] := by
      rw [Lib.join_cons, Lib.join_cons]; simp [Lib.joinTail]
    rw [e]
    intro hm
    rcases List.mem_append.1 hm with hm | hm
    · exact h x (by simp) hm
    · rcases List.mem_cons.1 hm with hm | hm
      · exact hc hm
      · exact join_free hc (y :: r) (fun z hz => h z (by simp [List.mem_cons.1 hz])) hm
theorem lineW_free (z nums : List Int) : ∀ x ∈ lineW z nums, (32 : UInt8) ∉ x := by
  intro x hx
  unfold lineW at hx
  rcases List.mem_cons.1 hx with rfl | hx
  · exact wordB_free _
  · rcases List.mem_cons.1 hx with rfl | hx
    · exact itoa_free _ (.inl rfl)
    · obtain ⟨f, _, hx⟩ := List.mem_flatMap.1 hx
      unfold fldW at hx
      split at hx
      · obtain ⟨n, _, rfl⟩ := List.mem_map.1 hx
        exact itoa_free n (.inl rfl)
      · rw [List.mem_singleton.1 hx]
        refine join_free (by decide) _ fun y hy => ?_
        obtain ⟨s, _, rfl⟩ := List.mem_map.1 hy
        exact itoa_free _ (.inl rfl)
theorem spl_line (z nums : List Int) : splD 32 (lineB z nums) = lineW z nums := splD_join 32 _ (by unfold lineW; simp) (lineW_free z nums)
theorem docC_lineE (z0 z1 z2 z3 z4 z5 z6 z7 z8 z9 z10 z11 z12 : Int) (nums : List Int) (hz : ∀ i, In64p (([z0, z1, z2, z3, z4, z5, z6, z7, z8, z9, z10, z11, z12] : List Int).getD i 0)) (hn : ∀ x ∈ nums, In64p x) (h : isZ [z0, z1, z2, z3, z4, z5, z6, z7, z8, z9, z10, z11, z12] nums.length = true) : docC (lineB [z0, z1, z2, z3, z4, z5, z6, z7, z8, z9, z10, z11, z12] nums) = some ⟨[z0, z1, z2, z3, z4, z5, z6, z7, z8, z9, z10, z11, z12], nums, []⟩ := by
  have hop : 1 ≤ z0 ∧ z0 ≤ 31 := by
    simp only [isZ, Bool.and_eq_true, decide_eq_true_eq] at h
    exact ⟨h.1.1.1.1.1, h.1.1.1.1.2.1⟩
  have hz1 : In64p z1 := hz 1
  unfold docC
  rw [spl_line]
  unfold lineW
  simp only [List.getD_cons_zero, List.getD_cons_succ]
  rw [numD_itoa hz1, op_word hop, ← encL_vals]
  simp only
  rw [docF_enc _ _ _ _ (fldL_ok z0).1 (fldL_ok z0).2 (okV_vals hz hn _)]
  obtain ⟨e1, e2⟩ := put_valsE z0 z1 z2 z3 z4 z5 z6 z7 z8 z9 z10 z11 z12 nums h
  simp only [List.nil_append]
  rw [e1, e2, if_pos ⟨trivial, h⟩]
theorem docC_line {z nums : List Int} (hl : z.length = 13) (hz : ∀ i, In64p (z.getD i 0)) (hn : ∀ x ∈ nums, In64p x) (h : isZ z nums.length = true) : docC (lineB z nums) = some ⟨z, nums, []⟩ := by
  match z, hl with
  | [z0, z1, z2, z3, z4, z5, z6, z7, z8, z9, z10, z11, z12], _ => exact docC_lineE z0 z1 z2 z3 z4 z5 z6 z7 z8 z9 z10 z11 z12 nums hz hn h
theorem docC_some {l : List UInt8} {d : Dz} (h : docC l = some d) : lineB d.z d.nums = l ∧ parseZ l = ⟨d.z, d.nums, [], false⟩ ∧ isZ d.z d.nums.length = true ∧ d.z.length = 13 ∧ d.P = [] := by
  unfold docC at h
  cases hs : splD 32 l with
  | nil => rw [hs] at h; cases h
  | cons x r =>
    rw [hs] at h
    cases r with
    | nil => cases h
    | cons y r =>
      simp only at h
      cases hy : numD y with
      | none => rw [hy] at h; cases h
      | some b =>
        rw [hy] at h
        simp only at h
        cases hf : docF (fldL (opB x)) ⟨[opB x, b, 0, 0, 0, 0, 0, 0, 0, 0, 0, 0, 0], [], r⟩ with
        | none => rw [hf] at h; cases h
        | some d1 =>
          rw [hf] at h
          simp only at h
          split at h
          · rename_i hc
            injection h with h
            subst h
            obtain ⟨vss, h1, h2, h3, h4⟩ := docF_some _ _ _ (fldL_ok _).1 hf
            have h5 := stepZ_doc _ _ _ (fldL_ok _).1 (fldL_ok _).2 rfl hf
            simp only at h2 h3 h4 h5
            rw [hc.1, List.append_nil] at h2
            rw [List.nil_append] at h4
            obtain ⟨i1, e1⟩ := numD_iff.1 hy
            obtain ⟨g1, g2⟩ := lineW_put (opB x) b vss h1
            rw [← h3] at g1 g2
            rw [← h4] at g1
            have hop : 1 ≤ opB x := by
              have h0 : d1.z.getD 0 0 = opB x := by
                rw [h3]
                have hl := fldL_cases (opB x)
                clear h2 h3 h4 h5 hc hf g1 g2 hs
                rcases hl with hl | hl | hl | hl | hl | hl | hl | hl | hl | hl | hl | hl | hl | hl | hl
                · rw [hl] at h1 ⊢
                  obtain ⟨v0, r0, rfl, e0, hk0⟩ := h1.cons
                  obtain ⟨x0, rfl⟩ := len1W (e0 (by decide))
                  obtain ⟨v1, r1, rfl, e1, hk1⟩ := hk0.cons
                  obtain ⟨x1, rfl⟩ := len1W (e1 (by decide))
                  obtain rfl := hk1.nil
                  simp [putZ, putV, slotL]
                · rw [hl] at h1 ⊢
                  obtain ⟨v0, r0, rfl, e0, hk0⟩ := h1.cons
                  obtain ⟨x0, rfl⟩ := len1W (e0 (by decide))
                  obtain ⟨v1, r1, rfl, e1, hk1⟩ := hk0.cons
                  obtain ⟨x1, rfl⟩ := len1W (e1 (by decide))
                  obtain ⟨v2, r2, rfl, e2, hk2⟩ := hk1.cons
                  obtain ⟨x2, rfl⟩ := len1W (e2 (by decide))
                  obtain ⟨v3, r3, rfl, e3, hk3⟩ := hk2.cons
                  obtain rfl := hk3.nil
                  simp [putZ, putV, slotL]
                · rw [hl] at h1 ⊢
                  obtain ⟨v0, r0, rfl, e0, hk0⟩ := h1.cons
                  obtain ⟨x0, rfl⟩ := len1W (e0 (by decide))
                  obtain ⟨v1, r1, rfl, e1, hk1⟩ := hk0.cons
                  obtain ⟨x1, rfl⟩ := len1W (e1 (by decide))
                  obtain ⟨v2, r2, rfl, e2, hk2⟩ := hk1.cons
                  obtain ⟨x2, rfl⟩ := len1W (e2 (by decide))
                  obtain rfl := hk2.nil
                  simp [putZ, putV, slotL]
                · rw [hl] at h1 ⊢
                  obtain ⟨v0, r0, rfl, e0, hk0⟩ := h1.cons
                  obtain ⟨x0, y0, rfl⟩ := len2W (e0 (by decide))
                  obtain ⟨v1, r1, rfl, e1, hk1⟩ := hk0.cons
                  obtain ⟨x1, rfl⟩ := len1W (e1 (by decide))
                  obtain ⟨v2, r2, rfl, e2, hk2⟩ := hk1.cons
                  obtain ⟨x2, rfl⟩ := len1W (e2 (by decide))
                  obtain rfl := hk2.nil
                  simp [putZ, putV, slotL]
                · rw [hl] at h1 ⊢
                  obtain ⟨v0, r0, rfl, e0, hk0⟩ := h1.cons
                  obtain ⟨x0, y0, rfl⟩ := len2W (e0 (by decide))
                  obtain rfl := hk0.nil
                  simp [putZ, putV, slotL]
                · rw [hl] at h1 ⊢
                  obtain ⟨v0, r0, rfl, e0, hk0⟩ := h1.cons
                  obtain ⟨x0, y0, rfl⟩ := len2W (e0 (by decide))
                  obtain ⟨v1, r1, rfl, e1, hk1⟩ := hk0.cons
                  obtain ⟨x1, y1, rfl⟩ := len2W (e1 (by decide))
                  obtain ⟨v2, r2, rfl, e2, hk2⟩ := hk1.cons
                  obtain ⟨x2, rfl⟩ := len1W (e2 (by decide))
                  obtain ⟨v3, r3, rfl, e3, hk3⟩ := hk2.cons
                  obtain ⟨x3, rfl⟩ := len1W (e3 (by decide))
                  obtain ⟨v4, r4, rfl, e4, hk4⟩ := hk3.cons
                  obtain ⟨x4, rfl⟩ := len1W (e4 (by decide))
                  obtain rfl := hk4.nil
                  simp [putZ, putV, slotL]
                · rw [hl] at h1 ⊢
                  obtain ⟨v0, r0, rfl, e0, hk0⟩ := h1.cons
                  obtain ⟨x0, rfl⟩ := len1W (e0 (by decide))
                  obtain rfl := hk0.nil
                  simp [putZ, putV, slotL]
                · rw [hl] at h1 ⊢
                  obtain ⟨v0, r0, rfl, e0, hk0⟩ := h1.cons
                  obtain ⟨x0, y0, rfl⟩ := len2W (e0 (by decide))
                  obtain ⟨v1, r1, rfl, e1, hk1⟩ := hk0.cons
                  obtain ⟨x1, rfl⟩ := len1W (e1 (by decide))
                  obtain ⟨v2, r2, rfl, e2, hk2⟩ := hk1.cons
                  obtain rfl := hk2.nil
                  simp [putZ, putV, slotL]
                · rw [hl] at h1 ⊢
                  obtain ⟨v0, r0, rfl, e0, hk0⟩ := h1.cons
                  obtain ⟨x0, rfl⟩ := len1W (e0 (by decide))
                  obtain ⟨v1, r1, rfl, e1, hk1⟩ := hk0.cons
                  obtain ⟨x1, y1, rfl⟩ := len2W (e1 (by decide))
                  obtain ⟨v2, r2, rfl, e2, hk2⟩ := hk1.cons
                  obtain ⟨x2, rfl⟩ := len1W (e2 (by decide))
                  obtain rfl := hk2.nil
                  simp [putZ, putV, slotL]
                · rw [hl] at h1 ⊢
                  obtain ⟨v0, r0, rfl, e0, hk0⟩ := h1.cons
                  obtain ⟨x0, rfl⟩ := len1W (e0 (by decide))
                  obtain ⟨v1, r1, rfl, e1, hk1⟩ := hk0.cons
                  obtain ⟨x1, rfl⟩ := len1W (e1 (by decide))
                  obtain rfl := hk1.nil
                  simp [putZ, putV, slotL]
                · rw [hl] at h1 ⊢
                  obtain ⟨v0, r0, rfl, e0, hk0⟩ := h1.cons
                  obtain ⟨x0, rfl⟩ := len1W (e0 (by decide))
                  obtain ⟨v1, r1, rfl, e1, hk1⟩ := hk0.cons
                  obtain ⟨x1, rfl⟩ := len1W (e1 (by decide))
                  obtain rfl := hk1.nil
                  simp [putZ, putV, slotL]
                · rw [hl] at h1 ⊢
                  obtain ⟨v0, r0, rfl, e0, hk0⟩ := h1.cons
                  obtain ⟨x0, y0, rfl⟩ := len2W (e0 (by decide))
                  obtain ⟨v1, r1, rfl, e1, hk1⟩ := hk0.cons
                  obtain ⟨x1, rfl⟩ := len1W (e1 (by decide))
                  obtain ⟨v2, r2, rfl, e2, hk2⟩ := hk1.cons
                  obtain ⟨x2, rfl⟩ := len1W (e2 (by decide))
                  obtain ⟨v3, r3, rfl, e3, hk3⟩ := hk2.cons
                  obtain ⟨x3, rfl⟩ := len1W (e3 (by decide))
                  obtain rfl := hk3.nil
                  simp [putZ, putV, slotL]
                · rw [hl] at h1 ⊢
                  obtain ⟨v0, r0, rfl, e0, hk0⟩ := h1.cons
                  obtain ⟨x0, y0, rfl⟩ := len2W (e0 (by decide))
                  obtain ⟨v1, r1, rfl, e1, hk1⟩ := hk0.cons
                  obtain ⟨x1, y1, rfl⟩ := len2W (e1 (by decide))
                  obtain rfl := hk1.nil
                  simp [putZ, putV, slotL]
                · rw [hl] at h1 ⊢
                  obtain ⟨v0, r0, rfl, e0, hk0⟩ := h1.cons
                  obtain ⟨x0, rfl⟩ := len1W (e0 (by decide))
                  obtain rfl := hk0.nil
                  simp [putZ, putV, slotL]
                · rw [hl] at h1 ⊢
                  obtain rfl := h1.nil
                  simp [putZ, putV, slotL]
              have hi := hc.2
              unfold isZ at hi
              simp only [Bool.and_eq_true, decide_eq_true_eq] at hi
              omega
            rw [word_op hop, e1, ← h2, ← hs] at g1
            refine ⟨?_, ?_, hc.2, g2, hc.1⟩
            · unfold lineB
              rw [g1, join_splD]
            · unfold parseZ beginZ
              rw [hs]
              simp only [wordP]
              rw [← e1, valP_itoa i1]
              simp only [Bool.or_false]
              rw [h5, hc.1]
          · cases h
theorem parse_line {z nums : List Int} (hl : z.length = 13) (hz : ∀ i, In64p (z.getD i 0)) (hn : ∀ x ∈ nums, In64p x) (h : okZ z nums.length = true) : okP (lineB z nums) = true ∧ (parseZ (lineB z nums)).z = z ∧ (parseZ (lineB z nums)).nums = nums := by
  rw [ok_is hl] at h
  have hd := docC_line hl hz hn h
  obtain ⟨h1, h2, h3, h4, h5⟩ := docC_some hd
  simp only at h1 h2 h3 h4
  refine ⟨?_, by rw [h2], by rw [h2]⟩
  unfold okP
  rw [h2]
  simp only [ok_is h4, h3]
  simp
end Go.Proofs.YtpmnjojednbnpaaGreatDoor
end
section
namespace Go.Proofs.YtpmnjojednbnpaaGreatDoor
open Go.ChangeShapes Go.WideShapes Go.ChangeAt Go.RowKit
set_option linter.unusedVariables false
set_option linter.unusedSimpArgs false

theorem rc_int (l : List Int) : rc (fun n : Int => [Value.int .i64 n]) l = ints .i64 l := by
  unfold rc ints
  induction l with
  | nil => rfl
  | cons a l ih => simp only [List.map_cons, List.flatten_cons, ih]; rfl
theorem rd_int {w : World} {r : List Value} (h : Go.Proofs.YtpmnjojednbnpaaGreatDoor.Rd w (.int .i64) r) : ∃ n : Int, r = [.int .i64 n] ∧ In64p n := by
  obtain ⟨n, rfl, hn⟩ := h
  exact ⟨n, rfl, by have := bd_i64 hn; unfold In64p; omega⟩
end Go.Proofs.YtpmnjojednbnpaaGreatDoor
end
section
namespace Go.Proofs.YtpmnjojednbnpaaGreatDoor
open Go.ChangeShapes Go.WideShapes Go.ChangeAt Go.RowKit
set_option linter.unusedVariables false
set_option linter.unusedSimpArgs false

structure Pair (W : Nat) (w : World) (g : Nat) (A : Option Addr) (c : Nat) (bs : List Nat) (A2 : Option Addr) (c2 : Nat) (ws : List Nat) : Prop where
  s : WrS W w g A c bs
  own : w.ownsRow W 5 1 (.slice A2 ws.length c2) ws.length (by8 ws)
  ne : (Value.slice A2 ws.length c2).ownBlock ≠ some g
  ap : Apart (.slice A bs.length c) (.slice A2 ws.length c2)
theorem Pair.below {W : Nat} {w w' : World} {g : Nat} {A : Option Addr} {c : Nat} {bs : List Nat} {A2 : Option Addr} {c2 : Nat} {ws : List Nat} (h : Pair W w g A c bs A2 c2 ws) (hb : Below w.heap.size w w') : Pair W w' g A c bs A2 c2 ws :=
  ⟨h.s.below hb, own_below h.own hb, h.ne, h.ap⟩
structure Dw where
  kind : Int
  A : Option Addr
  c : Nat
  l : List Int
  s : ByteArray
  lo : Int
  hi : Int
  most : Int
def Dw.cells (d : Dw) : List Value := [.int .i64 d.kind, .slice d.A d.l.length d.c, .string d.s, .int .i64 d.lo, .int .i64 d.hi, .int .i64 d.most]
theorem Dw.len (d : Dw) : d.cells.length = 6 := rfl
end Go.Proofs.YtpmnjojednbnpaaGreatDoor
end
section
namespace Go.Proofs.YtpmnjojednbnpaaGreatDoor
open Go.ChangeShapes Go.WideShapes Go.ChangeAt Go.RowKit
set_option linter.unusedVariables false
set_option linter.unusedSimpArgs false

theorem Chg.iterAt {g IT k : Nat} {row : Option Nat} {w w' : World} (h : Chg g row w w') (hge : w.heap.size ≤ IT) (s : ByteArray) : Chg g row w (w'.iterAt IT s k) :=
  ⟨h.os, h.tape, h.output, by rw [Lib.iterAt_size]; exact h.size, fun j hj h1 h2 => (Lib.iterAt_other _ _ _ _ _ (by omega)).trans (h.block j hj h1 h2)⟩
theorem Rdr.iterAt {w : World} {g IT k : Nat} {A : Option Addr} {c : Nat} {B : List Nat} {er : Int} {s : ByteArray} (h : Rdr w g A c B er) (hI : w.heap[IT]? = some (.stringIter s k)) (k2 : Nat) : Rdr (w.iterAt IT s k2) g A c B er := by
  refine ⟨by rw [Lib.iterAt_other _ _ _ _ _ (fun e => by subst e; rw [h.blk] at hI; cases hI)]; exact h.blk, h.sl.iterAt hI k2, h.cap, h.cm, h.lies, h.oct⟩
end Go.Proofs.YtpmnjojednbnpaaGreatDoor
end
section
namespace Go.Proofs.YtpmnjojednbnpaaGreatDoor
open Go.ChangeShapes Go.WideShapes Go.ChangeAt Go.RowKit
set_option linter.unusedVariables false
set_option linter.unusedSimpArgs false

structure Rq (w : World) (g : Nat) (A : Option Addr) (c : Nat) (B : List Nat) (er : Int) : Prop where
  blk : w.heap[g]? = some (.cells #[.slice A B.length c, .int .i64 er] 148 (0, 0))
  sl : Sl w A (by8 B)
  cap : B.length ≤ c
  cm : c ≤ maxLen
  far : B ≠ [] → ∀ b o, A = some ⟨b, o, none⟩ → b < g
  oct : Oct B
section
variable {w w' : World} {g : Nat} {A A' : Option Addr} {c c' : Nat} {B B' : List Nat} {er : Int}
theorem Rq.lt (h : Rq w g A c B er) : g < w.heap.size := (Array.getElem?_eq_some_iff.1 h.blk).1
theorem Rq.got (h : Rq w g A c B er) : w.cell? ⟨g, 0, none⟩ = some (.slice A B.length c) ∧ w.cell? ⟨g, 1, none⟩ = some (.int .i64 er) ∧ (∀ i, w.frozen? ⟨g, i, none⟩ = false) :=
  ⟨by rw [cell_of_row w g 0 _ _ (0, 0) h.blk]; rfl, by rw [cell_of_row w g 1 _ _ (0, 0) h.blk]; rfl, fun i => by simp [World.frozen?, h.blk]⟩
theorem Rq.below (h : Rq w g A c B er) (hb : Below w.heap.size w w') : Rq w' g A c B er := ⟨by rw [hb.block g h.lt]; exact h.blk, h.sl.below hb, h.cap, h.cm, h.far, h.oct⟩
theorem Rq.put (h : Rq w g A c B er) (hs : Sl w A' (by8 B')) (hc : B'.length ≤ c') (hm : c' ≤ maxLen) (hf : B' ≠ [] → ∀ b o, A' = some ⟨b, o, none⟩ → b < g) (ho : Oct B') : Rq (w.setCell ⟨g, 0, none⟩ (.slice A' B'.length c')) g A' c' B' er := by
  have hs' : Sl (w.setCell ⟨g, 0, none⟩ (.slice A' B'.length c')) A' (by8 B') := by
    by_cases hB : B' = []
    · rw [hB]; exact Sl.nil
    · exact hs.far (fun b o hA => by have := hf hB b o hA; show b ≠ g; omega) _
  refine ⟨?_, hs', hc, hm, hf, ho⟩
  rw [setCell_eq_setRow w g 0 _ 148 (0, 0) _ h.blk]
  have := setRow_heap w g _ ((#[.slice A B.length c, .int .i64 er] : Array Value).set! 0 (.slice A' B'.length c')) 148 (0, 0) h.blk
  simpa using this
theorem Rq.fail (h : Rq w g A c B er) (e : Int) : Rq ((w.setCell ⟨g, 1, none⟩ (.int .i64 e)).setCell ⟨g, 0, none⟩ (.slice none 0 0)) g none 0 [] e := by
  refine ⟨?_, Sl.nil, Nat.le_refl _, by decide, (fun h => absurd rfl h), (fun x hx => by cases hx)⟩
  have h1 : (w.setCell ⟨g, 1, none⟩ (.int .i64 e)).heap[g]? = some (.cells #[.slice A B.length c, .int .i64 e] 148 (0, 0)) := by
    rw [setCell_eq_setRow w g 1 _ 148 (0, 0) _ h.blk]
    have := setRow_heap w g _ ((#[.slice A B.length c, .int .i64 er] : Array Value).set! 1 (.int .i64 e)) 148 (0, 0) h.blk
    simpa using this
  rw [setCell_eq_setRow _ g 0 _ 148 (0, 0) _ h1]
  have := setRow_heap _ g _ ((#[.slice A B.length c, .int .i64 e] : Array Value).set! 0 (.slice none 0 0)) 148 (0, 0) h1
  simpa using this
end
end Go.Proofs.YtpmnjojednbnpaaGreatDoor
end
section
namespace Go.Proofs.YtpmnjojednbnpaaGreatDoor
open Go.ChangeShapes Go.WideShapes Go.ChangeAt Go.RowKit
set_option linter.unusedVariables false
set_option linter.unusedSimpArgs false

theorem WrS.mono {W W2 : Nat} {w : World} {g : Nat} {A : Option Addr} {c : Nat} {bs : List Nat} (h : WrS W w g A c bs) (hW : W2 ≤ W) : WrS W2 w g A c bs :=
  ⟨h.wr, Nat.le_trans hW h.ge, fun b hb => Nat.le_trans hW (h.row b hb)⟩
end Go.Proofs.YtpmnjojednbnpaaGreatDoor
end
