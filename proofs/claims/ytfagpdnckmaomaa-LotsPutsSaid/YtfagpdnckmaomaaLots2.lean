/-
  Layer 18, second part: Put and Take of the program (laid by gen_lots2.py).
-/
import Derived.Test.YtfagpdnckmaomaaLots
import Derived.Test.YtfagpdnckmaomaaLtU
import Derived.Test.YtfagpdnckmaomaaFix
namespace Go.Proofs.Ytfagpdnckmaomaa
open Go.ChangeShapes Go.WideShapes Go.ChangeAt Go.RowKit
set_option linter.unusedVariables false
set_option linter.unusedSimpArgs false

open Classical in
noncomputable def putLR (l : List Lt) (x : Lt) : Int × List Lt :=
  if chkL l x ≠ 0 then (chkL l x, []) else if ¬ In64 (getL l x.ast x.tag + x.qty) then (7, [])
  else if getL l x.ast x.tag = 0 ∧ l.length = 16 then (25, []) else (0, putR ahL l ⟨x.ast, x.tag, getL l x.ast x.tag + x.qty⟩)
def takeLR (l : List Lt) (x : Lt) : Int × List Lt :=
  if chkL l x ≠ 0 then (chkL l x, []) else if getL l x.ast x.tag < x.qty then (23, [])
  else if getL l x.ast x.tag = x.qty then (0, l.filter fun y => !sameL x.ast x.tag y) else (0, putR ahL l ⟨x.ast, x.tag, getL l x.ast x.tag - x.qty⟩)
/-- a row, and an error's number -/
def LRes (B : Nat) (w' : World) (e : Ending) (R : Int × List Lt) : Prop :=
  ∃ A' c', e = .returned (.tuple #[.slice A' R.2.length c', .int .i64 R.1]) ∧ w'.ownsRow B 74 3 (.slice A' R.2.length c') R.2.length (rc Lt.cells R.2)
theorem LRes.nil (B : Nat) (w' : World) (n : Int) : LRes B w' (.returned (.tuple #[.slice none 0 0, .int .i64 n])) (n, []) := ⟨none, 0, rfl, own_nil _ _ _⟩
theorem getL_in {l : List Lt} (h : ∀ y ∈ l, In64 y.qty) (a t : Int) : In64 (getL l a t) := by
  unfold getL pickL
  cases hf : l.find? (sameL a t) with
  | none => simp [Lt.zero]; decide
  | some y => exact h y (List.mem_of_find?_eq_some hf)
theorem chkL_cases (l : List Lt) (x : Lt) : chkL l x = 3 ∨ chkL l x = 2 ∨ chkL l x = 0 := by
  unfold chkL
  split
  · exact .inl rfl
  · split
    · exact .inr (.inl rfl)
    · exact .inr (.inr rfl)
theorem chkL_ok {l : List Lt} {x : Lt} (h : chkL l x = 0) : isLs l = true ∧ okL x = true := by
  unfold chkL at h
  cases h1 : isLs l <;> cases h2 : okL x <;> simp_all
theorem okL_pos {x : Lt} (h : okL x = true) : 0 < x.qty := by
  unfold okL at h; simp at h; exact h.2
theorem getL_nn {l : List Lt} (h : isLs l = true) (a t : Int) : 0 ≤ getL l a t := by
  unfold getL pickL
  cases hf : l.find? (sameL a t) with
  | none => simp [Lt.zero]
  | some y =>
    unfold isLs at h
    simp only [Bool.and_eq_true, List.all_eq_true] at h
    have := okL_pos (h.1.1 y (List.mem_of_find?_eq_some hf))
    simp only [Option.getD_some]
    omega

set_option maxHeartbeats 8000000 in
set_option maxRecDepth 100000 in
theorem lput_any (A : Option Addr) (cap : Nat) (l : List Lt) (x : Lt) (w : World) (hl : l.length ≤ 900000) (hx : In64 x.qty) (hq : ∀ y ∈ l, In64 y.qty) (hs : Sl w A (rc Lt.cells l)) :
    Calls Try.prog 50 #[.slice A l.length cap, x.val] w fun e w' => LRes w.heap.size w' e (putLR l x) ∧ Below w.heap.size w w' := by
  have hh64 := getL_in hq x.ast x.tag
  have hB0 := since_alloc (Below.refl _ w) (.cells x.cells.toArray 74)
  have hV0 := Lt.Bx.new w x
  have HS : Hid (∀ V, Below w.heap.size w V → Sl V A (rc Lt.cells l)) := Lib.hid fun V h => hs.below h
  have HCK := Lib.hid (fun V h => lcheck_any A cap l x V (by omega) h)
  have HG := Lib.hid (fun V h => lget_any A cap l x.ast x.tag V (by omega) h)
  have HP := Lib.hid (fun V a t q h => put_lt A cap l ⟨a, t, q⟩ 88 #[] ahL V (by omega) h ent_lahead (tells_lahead _ _))
  clear hs
  rcases chkL_cases l x with hc | hc | hc
  · have HR : Hid (putLR l x = (3, [])) := Lib.hid (by rw [putLR, if_pos (by rw [hc]; decide), hc])
    have HC := Lib.hid hc
    clear hc hh64 hx hq
    obtain ⟨xa, xt, xq⟩ := x
    unfold Lt.val at *
    unfold Lt.cells at hB0 hV0
    simp only at *
    go_enter Try.func50, Try.ntmps50
    go_upto_region 1 with fail
    have fz0 : (w.alloc (.cells #[.int .i64 xa, .int .i64 xt, .int .i64 xq] 74)).frozen? ⟨w.heap.size, 2, none⟩ = false := by simp
    generalize hWW : w.alloc (.cells #[.int .i64 xa, .int .i64 xt, .int .i64 xq] 74) = w0 at *
    clear hWW
    obtain ⟨q0, q1, q2⟩ := hV0.got
    simp only at q0 q1 q2
    have lq := hV0.lt
    go_wp2_with fail
    refine (HCK.out _ (HS.out _ hB0)).mono ?_
    rw [HC.out]
    rintro e w1 ⟨rfl, hb⟩
    have hB1 := since_step hB0 hb
    have hV1 := hV0.below hb
    have fz1 := (hb.frozen (p := ⟨w.heap.size, 2, none⟩) lq).trans fz0
    clear hb q0 q1 q2 lq hV0 fz0
    obtain ⟨q0, q1, q2⟩ := hV1.got
    simp only at q0 q1 q2
    have lq := hV1.lt
    go_wp2_with fail
    go_ret2
    rw [HR.out]
    exact ⟨LRes.nil _ _ _, hB1⟩
  · have HR : Hid (putLR l x = (2, [])) := Lib.hid (by rw [putLR, if_pos (by rw [hc]; decide), hc])
    have HC := Lib.hid hc
    clear hc hh64 hx hq
    obtain ⟨xa, xt, xq⟩ := x
    unfold Lt.val at *
    unfold Lt.cells at hB0 hV0
    simp only at *
    go_enter Try.func50, Try.ntmps50
    go_upto_region 1 with fail
    have fz0 : (w.alloc (.cells #[.int .i64 xa, .int .i64 xt, .int .i64 xq] 74)).frozen? ⟨w.heap.size, 2, none⟩ = false := by simp
    generalize hWW : w.alloc (.cells #[.int .i64 xa, .int .i64 xt, .int .i64 xq] 74) = w0 at *
    clear hWW
    obtain ⟨q0, q1, q2⟩ := hV0.got
    simp only at q0 q1 q2
    have lq := hV0.lt
    go_wp2_with fail
    refine (HCK.out _ (HS.out _ hB0)).mono ?_
    rw [HC.out]
    rintro e w1 ⟨rfl, hb⟩
    have hB1 := since_step hB0 hb
    have hV1 := hV0.below hb
    have fz1 := (hb.frozen (p := ⟨w.heap.size, 2, none⟩) lq).trans fz0
    clear hb q0 q1 q2 lq hV0 fz0
    obtain ⟨q0, q1, q2⟩ := hV1.got
    simp only at q0 q1 q2
    have lq := hV1.lt
    go_wp2_with fail
    go_ret2
    rw [HR.out]
    exact ⟨LRes.nil _ _ _, hB1⟩
  have hways : (¬ In64 (getL l x.ast x.tag + x.qty)) ∨ (In64 (getL l x.ast x.tag + x.qty) ∧ getL l x.ast x.tag = 0 ∧ l.length = 16) ∨ (In64 (getL l x.ast x.tag + x.qty) ∧ getL l x.ast x.tag = 0 ∧ l.length ≠ 16) ∨ (In64 (getL l x.ast x.tag + x.qty) ∧ getL l x.ast x.tag ≠ 0) := by
    by_cases h1 : In64 (getL l x.ast x.tag + x.qty)
    · by_cases h2 : getL l x.ast x.tag = 0
      · by_cases h3 : l.length = 16
        · exact .inr (.inl ⟨h1, h2, h3⟩)
        · exact .inr (.inr (.inl ⟨h1, h2, h3⟩))
      · exact .inr (.inr (.inr ⟨h1, h2⟩))
    · exact .inl h1
  rcases hways with h1 | h1 | h1 | h1
  · have HR : Hid (putLR l x = (7, [])) := Lib.hid (by rw [putLR, if_neg (by rw [hc]; decide), if_pos h1])
    have HC := Lib.hid hc
    have hsum : [getL l x.ast x.tag, x.qty].sum = getL l x.ast x.tag + x.qty := by simp
    have hal : All64 [getL l x.ast x.tag, x.qty] := by intro y hy; simp at hy; rcases hy with rfl | rfl <;> assumption
    have HF1 : Hid (fV (getL l x.ast x.tag + x.qty) = 0) := Lib.hid (if_neg h1)
    have HF2 : Hid (fE (getL l x.ast x.tag + x.qty) = 7) := Lib.hid (if_neg h1)
    clear h1 hc hq
    obtain ⟨hs0, hgg⟩ : ∃ v, getL l x.ast x.tag = v := ⟨_, rfl⟩
    rw [hgg] at hh64 HF1 HF2 hsum hal
    have HH := Lib.hid hgg
    clear hgg
    obtain ⟨xa, xt, xq⟩ := x
    unfold Lt.val at *
    unfold Lt.cells at hB0 hV0
    simp only at *
    go_enter Try.func50, Try.ntmps50
    go_upto_region 1 with fail
    have fz0 : (w.alloc (.cells #[.int .i64 xa, .int .i64 xt, .int .i64 xq] 74)).frozen? ⟨w.heap.size, 2, none⟩ = false := by simp
    generalize hWW : w.alloc (.cells #[.int .i64 xa, .int .i64 xt, .int .i64 xq] 74) = w0 at *
    clear hWW
    obtain ⟨q0, q1, q2⟩ := hV0.got
    simp only at q0 q1 q2
    have lq := hV0.lt
    go_wp2_with fail
    refine (HCK.out _ (HS.out _ hB0)).mono ?_
    rw [HC.out]
    rintro e w1 ⟨rfl, hb⟩
    have hB1 := since_step hB0 hb
    have hV1 := hV0.below hb
    have fz1 := (hb.frozen (p := ⟨w.heap.size, 2, none⟩) lq).trans fz0
    clear hb q0 q1 q2 lq hV0 fz0
    obtain ⟨q0, q1, q2⟩ := hV1.got
    simp only at q0 q1 q2
    have lq := hV1.lt
    go_wp2_with fail
    refine (HG.out _ (HS.out _ hB1)).mono ?_
    rw [HH.out]
    rintro e w2 ⟨rfl, hb⟩
    have hB2 := since_step hB1 hb
    have hV2 := hV1.below hb
    have fz2 := (hb.frozen (p := ⟨w.heap.size, 2, none⟩) lq).trans fz1
    clear hb q0 q1 q2 lq hV1 fz1
    obtain ⟨q0, q1, q2⟩ := hV2.got
    simp only at q0 q1 q2
    have lq := hV2.lt
    go_wp2_with fail
    have HSL := Sl.new_ w2 (ints .i64 [hs0, xq]) 2
    refine (fsum_any _ 2 [hs0, xq] _ (by simp) hal HSL).mono ?_
    rw [hsum, HF1.out, HF2.out]
    rintro e w3 ⟨rfl, hb⟩
    have hb' := since_step (since_alloc (Below.refl _ w2) (.cells (ints .i64 [hs0, xq]).toArray 2)) hb
    have hB3 := since_step hB2 hb'
    have hV3 := hV2.below hb'
    have fz3 := (hb'.frozen (p := ⟨w.heap.size, 2, none⟩) lq).trans fz2
    clear hb hb' q0 q1 q2 lq hV2 fz2
    obtain ⟨q0, q1, q2⟩ := hV3.got
    simp only at q0 q1 q2
    have lq := hV3.lt
    go_wp2_with fail
    go_ret2
    rw [HR.out]
    exact ⟨LRes.nil _ _ _, hB3⟩
  · have HR : Hid (putLR l x = (25, [])) := Lib.hid (by rw [putLR, if_neg (by rw [hc]; decide), if_neg (fun h => h h1.1), if_pos h1.2])
    have HC := Lib.hid hc
    have hsum : [getL l x.ast x.tag, x.qty].sum = getL l x.ast x.tag + x.qty := by simp
    have hal : All64 [getL l x.ast x.tag, x.qty] := by intro y hy; simp at hy; rcases hy with rfl | rfl <;> assumption
    have HF1 : Hid (fV (getL l x.ast x.tag + x.qty) = getL l x.ast x.tag + x.qty) := Lib.hid (if_pos h1.1)
    have HF2 : Hid (fE (getL l x.ast x.tag + x.qty) = 0) := Lib.hid (if_pos h1.1)
    have hgz := h1.2.1
    have hln : (l.length : Int) = 16 := by have := h1.2.2; omega
    have hgq : (getL l x.ast x.tag == 0) = true := by rw [hgz]; rfl
    have hlq : ((l.length : Int) == 16) = true := by rw [hln]; rfl
    clear hgz hln
    clear h1 hc hq
    obtain ⟨hs0, hgg⟩ : ∃ v, getL l x.ast x.tag = v := ⟨_, rfl⟩
    rw [hgg] at hh64 HF1 HF2 hsum hal hgq
    have HH := Lib.hid hgg
    clear hgg
    obtain ⟨xa, xt, xq⟩ := x
    unfold Lt.val at *
    unfold Lt.cells at hB0 hV0
    simp only at *
    go_enter Try.func50, Try.ntmps50
    go_upto_region 1 with fail
    have fz0 : (w.alloc (.cells #[.int .i64 xa, .int .i64 xt, .int .i64 xq] 74)).frozen? ⟨w.heap.size, 2, none⟩ = false := by simp
    generalize hWW : w.alloc (.cells #[.int .i64 xa, .int .i64 xt, .int .i64 xq] 74) = w0 at *
    clear hWW
    obtain ⟨q0, q1, q2⟩ := hV0.got
    simp only at q0 q1 q2
    have lq := hV0.lt
    go_wp2_with fail
    refine (HCK.out _ (HS.out _ hB0)).mono ?_
    rw [HC.out]
    rintro e w1 ⟨rfl, hb⟩
    have hB1 := since_step hB0 hb
    have hV1 := hV0.below hb
    have fz1 := (hb.frozen (p := ⟨w.heap.size, 2, none⟩) lq).trans fz0
    clear hb q0 q1 q2 lq hV0 fz0
    obtain ⟨q0, q1, q2⟩ := hV1.got
    simp only at q0 q1 q2
    have lq := hV1.lt
    go_wp2_with fail
    refine (HG.out _ (HS.out _ hB1)).mono ?_
    rw [HH.out]
    rintro e w2 ⟨rfl, hb⟩
    have hB2 := since_step hB1 hb
    have hV2 := hV1.below hb
    have fz2 := (hb.frozen (p := ⟨w.heap.size, 2, none⟩) lq).trans fz1
    clear hb q0 q1 q2 lq hV1 fz1
    obtain ⟨q0, q1, q2⟩ := hV2.got
    simp only at q0 q1 q2
    have lq := hV2.lt
    go_wp2_with fail
    have HSL := Sl.new_ w2 (ints .i64 [hs0, xq]) 2
    refine (fsum_any _ 2 [hs0, xq] _ (by simp) hal HSL).mono ?_
    rw [hsum, HF1.out, HF2.out]
    rintro e w3 ⟨rfl, hb⟩
    have hb' := since_step (since_alloc (Below.refl _ w2) (.cells (ints .i64 [hs0, xq]).toArray 2)) hb
    have hB3 := since_step hB2 hb'
    have hV3 := hV2.below hb'
    have fz3 := (hb'.frozen (p := ⟨w.heap.size, 2, none⟩) lq).trans fz2
    clear hb hb' q0 q1 q2 lq hV2 fz2
    obtain ⟨q0, q1, q2⟩ := hV3.got
    simp only at q0 q1 q2
    have lq := hV3.lt
    go_wp2_with fail
    go_ret2
    rw [HR.out]
    exact ⟨LRes.nil _ _ _, hB3⟩
  · have HR : Hid (putLR l x = (0, putR ahL l ⟨x.ast, x.tag, getL l x.ast x.tag + x.qty⟩)) := Lib.hid (by rw [putLR, if_neg (by rw [hc]; decide), if_neg (fun h => h h1.1), if_neg (fun h => h1.2.2 h.2)])
    have HC := Lib.hid hc
    have hsum : [getL l x.ast x.tag, x.qty].sum = getL l x.ast x.tag + x.qty := by simp
    have hal : All64 [getL l x.ast x.tag, x.qty] := by intro y hy; simp at hy; rcases hy with rfl | rfl <;> assumption
    have HF1 : Hid (fV (getL l x.ast x.tag + x.qty) = getL l x.ast x.tag + x.qty) := Lib.hid (if_pos h1.1)
    have HF2 : Hid (fE (getL l x.ast x.tag + x.qty) = 0) := Lib.hid (if_pos h1.1)
    have hgz := h1.2.1
    have hln : (l.length : Int) ≠ 16 := by have := h1.2.2; omega
    have hgq : (getL l x.ast x.tag == 0) = true := by rw [hgz]; rfl
    have hlq : ((l.length : Int) == 16) = false := by simpa using hln
    clear hgz hln
    clear h1 hc hq
    obtain ⟨hs0, hgg⟩ : ∃ v, getL l x.ast x.tag = v := ⟨_, rfl⟩
    rw [hgg] at hh64 HF1 HF2 hsum hal hgq HR
    have HH := Lib.hid hgg
    clear hgg
    obtain ⟨xa, xt, xq⟩ := x
    unfold Lt.val at *
    unfold Lt.cells at hB0 hV0
    simp only at *
    go_enter Try.func50, Try.ntmps50
    go_upto_region 1 with fail
    have fz0 : (w.alloc (.cells #[.int .i64 xa, .int .i64 xt, .int .i64 xq] 74)).frozen? ⟨w.heap.size, 2, none⟩ = false := by simp
    generalize hWW : w.alloc (.cells #[.int .i64 xa, .int .i64 xt, .int .i64 xq] 74) = w0 at *
    clear hWW
    obtain ⟨q0, q1, q2⟩ := hV0.got
    simp only at q0 q1 q2
    have lq := hV0.lt
    go_wp2_with fail
    refine (HCK.out _ (HS.out _ hB0)).mono ?_
    rw [HC.out]
    rintro e w1 ⟨rfl, hb⟩
    have hB1 := since_step hB0 hb
    have hV1 := hV0.below hb
    have fz1 := (hb.frozen (p := ⟨w.heap.size, 2, none⟩) lq).trans fz0
    clear hb q0 q1 q2 lq hV0 fz0
    obtain ⟨q0, q1, q2⟩ := hV1.got
    simp only at q0 q1 q2
    have lq := hV1.lt
    go_wp2_with fail
    refine (HG.out _ (HS.out _ hB1)).mono ?_
    rw [HH.out]
    rintro e w2 ⟨rfl, hb⟩
    have hB2 := since_step hB1 hb
    have hV2 := hV1.below hb
    have fz2 := (hb.frozen (p := ⟨w.heap.size, 2, none⟩) lq).trans fz1
    clear hb q0 q1 q2 lq hV1 fz1
    obtain ⟨q0, q1, q2⟩ := hV2.got
    simp only at q0 q1 q2
    have lq := hV2.lt
    go_wp2_with fail
    have HSL := Sl.new_ w2 (ints .i64 [hs0, xq]) 2
    refine (fsum_any _ 2 [hs0, xq] _ (by simp) hal HSL).mono ?_
    rw [hsum, HF1.out, HF2.out]
    rintro e w3 ⟨rfl, hb⟩
    have hb' := since_step (since_alloc (Below.refl _ w2) (.cells (ints .i64 [hs0, xq]).toArray 2)) hb
    have hB3 := since_step hB2 hb'
    have hV3 := hV2.below hb'
    have fz3 := (hb'.frozen (p := ⟨w.heap.size, 2, none⟩) lq).trans fz2
    clear hb hb' q0 q1 q2 lq hV2 fz2
    obtain ⟨q0, q1, q2⟩ := hV3.got
    simp only at q0 q1 q2
    have lq := hV3.lt
    go_wp2_with fail
    have hBs := Below.setCell hB3 (p := ⟨w.heap.size, 2, none⟩) (Nat.le_refl _) (.int .i64 (hs0 + xq))
    refine (HP.out _ xa xt (hs0 + xq) (HS.out _ hBs)).mono ?_
    rw [putL_eq]
    rintro e w4 ⟨⟨A5, c5, rfl, own5⟩, hb⟩
    have hB4 := since_step hBs hb
    have own5 := own_base own5 hBs.size
    go_wp2_with fail
    go_ret2
    rw [HR.out]
    exact ⟨⟨A5, c5, rfl, own5⟩, hB4⟩
  · have HR : Hid (putLR l x = (0, putR ahL l ⟨x.ast, x.tag, getL l x.ast x.tag + x.qty⟩)) := Lib.hid (by rw [putLR, if_neg (by rw [hc]; decide), if_neg (fun h => h h1.1), if_neg (fun h => h1.2 h.1)])
    have HC := Lib.hid hc
    have hsum : [getL l x.ast x.tag, x.qty].sum = getL l x.ast x.tag + x.qty := by simp
    have hal : All64 [getL l x.ast x.tag, x.qty] := by intro y hy; simp at hy; rcases hy with rfl | rfl <;> assumption
    have HF1 : Hid (fV (getL l x.ast x.tag + x.qty) = getL l x.ast x.tag + x.qty) := Lib.hid (if_pos h1.1)
    have HF2 : Hid (fE (getL l x.ast x.tag + x.qty) = 0) := Lib.hid (if_pos h1.1)
    have hgq : (getL l x.ast x.tag == 0) = false := by simpa using h1.2
    clear h1 hc hq
    obtain ⟨hs0, hgg⟩ : ∃ v, getL l x.ast x.tag = v := ⟨_, rfl⟩
    rw [hgg] at hh64 HF1 HF2 hsum hal hgq HR
    have HH := Lib.hid hgg
    clear hgg
    obtain ⟨xa, xt, xq⟩ := x
    unfold Lt.val at *
    unfold Lt.cells at hB0 hV0
    simp only at *
    go_enter Try.func50, Try.ntmps50
    go_upto_region 1 with fail
    have fz0 : (w.alloc (.cells #[.int .i64 xa, .int .i64 xt, .int .i64 xq] 74)).frozen? ⟨w.heap.size, 2, none⟩ = false := by simp
    generalize hWW : w.alloc (.cells #[.int .i64 xa, .int .i64 xt, .int .i64 xq] 74) = w0 at *
    clear hWW
    obtain ⟨q0, q1, q2⟩ := hV0.got
    simp only at q0 q1 q2
    have lq := hV0.lt
    go_wp2_with fail
    refine (HCK.out _ (HS.out _ hB0)).mono ?_
    rw [HC.out]
    rintro e w1 ⟨rfl, hb⟩
    have hB1 := since_step hB0 hb
    have hV1 := hV0.below hb
    have fz1 := (hb.frozen (p := ⟨w.heap.size, 2, none⟩) lq).trans fz0
    clear hb q0 q1 q2 lq hV0 fz0
    obtain ⟨q0, q1, q2⟩ := hV1.got
    simp only at q0 q1 q2
    have lq := hV1.lt
    go_wp2_with fail
    refine (HG.out _ (HS.out _ hB1)).mono ?_
    rw [HH.out]
    rintro e w2 ⟨rfl, hb⟩
    have hB2 := since_step hB1 hb
    have hV2 := hV1.below hb
    have fz2 := (hb.frozen (p := ⟨w.heap.size, 2, none⟩) lq).trans fz1
    clear hb q0 q1 q2 lq hV1 fz1
    obtain ⟨q0, q1, q2⟩ := hV2.got
    simp only at q0 q1 q2
    have lq := hV2.lt
    go_wp2_with fail
    have HSL := Sl.new_ w2 (ints .i64 [hs0, xq]) 2
    refine (fsum_any _ 2 [hs0, xq] _ (by simp) hal HSL).mono ?_
    rw [hsum, HF1.out, HF2.out]
    rintro e w3 ⟨rfl, hb⟩
    have hb' := since_step (since_alloc (Below.refl _ w2) (.cells (ints .i64 [hs0, xq]).toArray 2)) hb
    have hB3 := since_step hB2 hb'
    have hV3 := hV2.below hb'
    have fz3 := (hb'.frozen (p := ⟨w.heap.size, 2, none⟩) lq).trans fz2
    clear hb hb' q0 q1 q2 lq hV2 fz2
    obtain ⟨q0, q1, q2⟩ := hV3.got
    simp only at q0 q1 q2
    have lq := hV3.lt
    go_wp2_with fail
    have hBs := Below.setCell hB3 (p := ⟨w.heap.size, 2, none⟩) (Nat.le_refl _) (.int .i64 (hs0 + xq))
    refine (HP.out _ xa xt (hs0 + xq) (HS.out _ hBs)).mono ?_
    rw [putL_eq]
    rintro e w4 ⟨⟨A5, c5, rfl, own5⟩, hb⟩
    have hB4 := since_step hBs hb
    have own5 := own_base own5 hBs.size
    go_wp2_with fail
    go_ret2
    rw [HR.out]
    exact ⟨⟨A5, c5, rfl, own5⟩, hB4⟩

set_option maxHeartbeats 8000000 in
set_option maxRecDepth 100000 in
theorem ltake_any (A : Option Addr) (cap : Nat) (l : List Lt) (x : Lt) (w : World) (hl : l.length ≤ 900000) (hx : In64 x.qty) (hq : ∀ y ∈ l, In64 y.qty) (hs : Sl w A (rc Lt.cells l)) :
    Calls Try.prog 52 #[.slice A l.length cap, x.val] w fun e w' => LRes w.heap.size w' e (takeLR l x) ∧ Below w.heap.size w w' := by
  have hh64 := getL_in hq x.ast x.tag
  have hB0 := since_alloc (Below.refl _ w) (.cells x.cells.toArray 74)
  have hV0 := Lt.Bx.new w x
  have HS : Hid (∀ V, Below w.heap.size w V → Sl V A (rc Lt.cells l)) := Lib.hid fun V h => hs.below h
  have HCK := Lib.hid (fun V h => lcheck_any A cap l x V (by omega) h)
  have HG := Lib.hid (fun V h => lget_any A cap l x.ast x.tag V (by omega) h)
  have HP := Lib.hid (fun V a t q h => put_lt A cap l ⟨a, t, q⟩ 88 #[] ahL V (by omega) h ent_lahead (tells_lahead _ _))
  have HD := Lib.hid (fun V b a t q h (hz : Lt.Bx V b ⟨a, t, q⟩) => drop_lt A cap l 119 #[.pointer (some ⟨b, 0, none⟩)] (sameL a t) V (by omega) h ent_same1 (tells_same1 ⟨a, t, q⟩ b _ hz))
  have HSM := Lib.hid (fun V a t q => lsame_any ⟨a, t, q⟩ V)
  clear hs
  rcases chkL_cases l x with hc | hc | hc
  · have HR : Hid (takeLR l x = (3, [])) := Lib.hid (by rw [takeLR, if_pos (by rw [hc]; decide), hc])
    have HC := Lib.hid hc
    clear hc hh64 hx hq
    obtain ⟨xa, xt, xq⟩ := x
    unfold Lt.val at *
    unfold Lt.cells at hB0 hV0
    simp only at *
    go_enter Try.func52, Try.ntmps52
    go_upto_region 1 with fail
    have fz0 : (w.alloc (.cells #[.int .i64 xa, .int .i64 xt, .int .i64 xq] 74)).frozen? ⟨w.heap.size, 2, none⟩ = false := by simp
    generalize hWW : w.alloc (.cells #[.int .i64 xa, .int .i64 xt, .int .i64 xq] 74) = w0 at *
    clear hWW
    obtain ⟨q0, q1, q2⟩ := hV0.got
    simp only at q0 q1 q2
    have lq := hV0.lt
    go_wp2_with fail
    refine (HCK.out _ (HS.out _ hB0)).mono ?_
    rw [HC.out]
    rintro e w1 ⟨rfl, hb⟩
    have hB1 := since_step hB0 hb
    have hV1 := hV0.below hb
    have fz1 := (hb.frozen (p := ⟨w.heap.size, 2, none⟩) lq).trans fz0
    clear hb q0 q1 q2 lq hV0 fz0
    obtain ⟨q0, q1, q2⟩ := hV1.got
    simp only at q0 q1 q2
    have lq := hV1.lt
    go_wp2_with fail
    go_ret2
    rw [HR.out]
    exact ⟨LRes.nil _ _ _, hB1⟩
  · have HR : Hid (takeLR l x = (2, [])) := Lib.hid (by rw [takeLR, if_pos (by rw [hc]; decide), hc])
    have HC := Lib.hid hc
    clear hc hh64 hx hq
    obtain ⟨xa, xt, xq⟩ := x
    unfold Lt.val at *
    unfold Lt.cells at hB0 hV0
    simp only at *
    go_enter Try.func52, Try.ntmps52
    go_upto_region 1 with fail
    have fz0 : (w.alloc (.cells #[.int .i64 xa, .int .i64 xt, .int .i64 xq] 74)).frozen? ⟨w.heap.size, 2, none⟩ = false := by simp
    generalize hWW : w.alloc (.cells #[.int .i64 xa, .int .i64 xt, .int .i64 xq] 74) = w0 at *
    clear hWW
    obtain ⟨q0, q1, q2⟩ := hV0.got
    simp only at q0 q1 q2
    have lq := hV0.lt
    go_wp2_with fail
    refine (HCK.out _ (HS.out _ hB0)).mono ?_
    rw [HC.out]
    rintro e w1 ⟨rfl, hb⟩
    have hB1 := since_step hB0 hb
    have hV1 := hV0.below hb
    have fz1 := (hb.frozen (p := ⟨w.heap.size, 2, none⟩) lq).trans fz0
    clear hb q0 q1 q2 lq hV0 fz0
    obtain ⟨q0, q1, q2⟩ := hV1.got
    simp only at q0 q1 q2
    have lq := hV1.lt
    go_wp2_with fail
    go_ret2
    rw [HR.out]
    exact ⟨LRes.nil _ _ _, hB1⟩
  obtain ⟨hi, ho⟩ := chkL_ok hc
  have hpos := okL_pos ho
  have hnn := getL_nn hi x.ast x.tag
  have hways : (getL l x.ast x.tag < x.qty) ∨ (getL l x.ast x.tag = x.qty) ∨ (x.qty < getL l x.ast x.tag) := by omega
  rcases hways with h1 | h1 | h1
  · have HR : Hid (takeLR l x = (23, [])) := Lib.hid (by rw [takeLR, if_neg (by rw [hc]; decide), if_pos h1])
    have HC := Lib.hid hc
    obtain ⟨hs0, hgg⟩ : ∃ v, getL l x.ast x.tag = v := ⟨_, rfl⟩
    rw [hgg] at h1
    have HH := Lib.hid hgg
    clear hgg hc hi ho hq hpos hnn hh64 hx
    obtain ⟨xa, xt, xq⟩ := x
    unfold Lt.val at *
    unfold Lt.cells at hB0 hV0
    simp only at *
    go_enter Try.func52, Try.ntmps52
    go_upto_region 1 with fail
    have fz0 : (w.alloc (.cells #[.int .i64 xa, .int .i64 xt, .int .i64 xq] 74)).frozen? ⟨w.heap.size, 2, none⟩ = false := by simp
    generalize hWW : w.alloc (.cells #[.int .i64 xa, .int .i64 xt, .int .i64 xq] 74) = w0 at *
    clear hWW
    obtain ⟨q0, q1, q2⟩ := hV0.got
    simp only at q0 q1 q2
    have lq := hV0.lt
    go_wp2_with fail
    refine (HCK.out _ (HS.out _ hB0)).mono ?_
    rw [HC.out]
    rintro e w1 ⟨rfl, hb⟩
    have hB1 := since_step hB0 hb
    have hV1 := hV0.below hb
    have fz1 := (hb.frozen (p := ⟨w.heap.size, 2, none⟩) lq).trans fz0
    clear hb q0 q1 q2 lq hV0 fz0
    obtain ⟨q0, q1, q2⟩ := hV1.got
    simp only at q0 q1 q2
    have lq := hV1.lt
    go_wp2_with fail
    refine (HG.out _ (HS.out _ hB1)).mono ?_
    rw [HH.out]
    rintro e w2 ⟨rfl, hb⟩
    have hB2 := since_step hB1 hb
    have hV2 := hV1.below hb
    have fz2 := (hb.frozen (p := ⟨w.heap.size, 2, none⟩) lq).trans fz1
    clear hb q0 q1 q2 lq hV1 fz1
    obtain ⟨q0, q1, q2⟩ := hV2.got
    simp only at q0 q1 q2
    have lq := hV2.lt
    go_wp2_with fail
    go_ret2
    rw [HR.out]
    exact ⟨LRes.nil _ _ _, hB2⟩
  · have HR : Hid (takeLR l x = (0, l.filter fun y => !sameL x.ast x.tag y)) := Lib.hid (by rw [takeLR, if_neg (by rw [hc]; decide), if_neg (by omega), if_pos h1])
    have HC := Lib.hid hc
    have h1b : ¬ getL l x.ast x.tag < x.qty := by omega
    have h2b : (getL l x.ast x.tag == x.qty) = true := by simpa using h1
    obtain ⟨hs0, hgg⟩ : ∃ v, getL l x.ast x.tag = v := ⟨_, rfl⟩
    rw [hgg] at h1b h2b
    have HH := Lib.hid hgg
    clear hgg hc hi ho hq hpos hnn hh64 hx h1
    obtain ⟨xa, xt, xq⟩ := x
    unfold Lt.val at *
    unfold Lt.cells at hB0 hV0
    simp only at *
    go_enter Try.func52, Try.ntmps52
    go_upto_region 1 with fail
    have fz0 : (w.alloc (.cells #[.int .i64 xa, .int .i64 xt, .int .i64 xq] 74)).frozen? ⟨w.heap.size, 2, none⟩ = false := by simp
    generalize hWW : w.alloc (.cells #[.int .i64 xa, .int .i64 xt, .int .i64 xq] 74) = w0 at *
    clear hWW
    obtain ⟨q0, q1, q2⟩ := hV0.got
    simp only at q0 q1 q2
    have lq := hV0.lt
    go_wp2_with fail
    refine (HCK.out _ (HS.out _ hB0)).mono ?_
    rw [HC.out]
    rintro e w1 ⟨rfl, hb⟩
    have hB1 := since_step hB0 hb
    have hV1 := hV0.below hb
    have fz1 := (hb.frozen (p := ⟨w.heap.size, 2, none⟩) lq).trans fz0
    clear hb q0 q1 q2 lq hV0 fz0
    obtain ⟨q0, q1, q2⟩ := hV1.got
    simp only at q0 q1 q2
    have lq := hV1.lt
    go_wp2_with fail
    refine (HG.out _ (HS.out _ hB1)).mono ?_
    rw [HH.out]
    rintro e w2 ⟨rfl, hb⟩
    have hB2 := since_step hB1 hb
    have hV2 := hV1.below hb
    have fz2 := (hb.frozen (p := ⟨w.heap.size, 2, none⟩) lq).trans fz1
    clear hb q0 q1 q2 lq hV1 fz1
    obtain ⟨q0, q1, q2⟩ := hV2.got
    simp only at q0 q1 q2
    have lq := hV2.lt
    go_wp2_with fail
    refine (HSM.out _ xa xt xq).mono ?_
    rintro e w3 ⟨⟨b, rfl, hz⟩, hb⟩
    have hB3 := since_step hB2 hb
    clear hb
    go_wp2_with fail
    refine (HD.out _ b xa xt xq (HS.out _ hB3) hz).mono ?_
    rintro e w4 ⟨⟨A5, c5, rfl, own5⟩, hb⟩
    have hB4 := since_step hB3 hb
    have own5 := own_base own5 hB3.size
    go_wp2_with fail
    go_ret2
    rw [HR.out]
    exact ⟨⟨A5, c5, rfl, own5⟩, hB4⟩
  · have HR : Hid (takeLR l x = (0, putR ahL l ⟨x.ast, x.tag, getL l x.ast x.tag - x.qty⟩)) := Lib.hid (by rw [takeLR, if_neg (by rw [hc]; decide), if_neg (by omega), if_neg (by omega)])
    have HC := Lib.hid hc
    have h1b : ¬ getL l x.ast x.tag < x.qty := by omega
    have h2b : (getL l x.ast x.tag == x.qty) = false := by simp; omega
    have hwr : IntKind.i64.wrap (getL l x.ast x.tag - x.qty) = getL l x.ast x.tag - x.qty := IntWalk.i64_in _ (by unfold In64 at *; omega)
    obtain ⟨hs0, hgg⟩ : ∃ v, getL l x.ast x.tag = v := ⟨_, rfl⟩
    rw [hgg] at h1b h2b hwr HR
    have HH := Lib.hid hgg
    clear hgg hc hi ho hq hpos hnn hh64 hx h1
    obtain ⟨xa, xt, xq⟩ := x
    unfold Lt.val at *
    unfold Lt.cells at hB0 hV0
    simp only at *
    go_enter Try.func52, Try.ntmps52
    go_upto_region 1 with fail
    have fz0 : (w.alloc (.cells #[.int .i64 xa, .int .i64 xt, .int .i64 xq] 74)).frozen? ⟨w.heap.size, 2, none⟩ = false := by simp
    generalize hWW : w.alloc (.cells #[.int .i64 xa, .int .i64 xt, .int .i64 xq] 74) = w0 at *
    clear hWW
    obtain ⟨q0, q1, q2⟩ := hV0.got
    simp only at q0 q1 q2
    have lq := hV0.lt
    go_wp2_with fail
    refine (HCK.out _ (HS.out _ hB0)).mono ?_
    rw [HC.out]
    rintro e w1 ⟨rfl, hb⟩
    have hB1 := since_step hB0 hb
    have hV1 := hV0.below hb
    have fz1 := (hb.frozen (p := ⟨w.heap.size, 2, none⟩) lq).trans fz0
    clear hb q0 q1 q2 lq hV0 fz0
    obtain ⟨q0, q1, q2⟩ := hV1.got
    simp only at q0 q1 q2
    have lq := hV1.lt
    go_wp2_with fail
    refine (HG.out _ (HS.out _ hB1)).mono ?_
    rw [HH.out]
    rintro e w2 ⟨rfl, hb⟩
    have hB2 := since_step hB1 hb
    have hV2 := hV1.below hb
    have fz2 := (hb.frozen (p := ⟨w.heap.size, 2, none⟩) lq).trans fz1
    clear hb q0 q1 q2 lq hV1 fz1
    obtain ⟨q0, q1, q2⟩ := hV2.got
    simp only at q0 q1 q2
    have lq := hV2.lt
    go_wp2_with fail
    have hBs := Below.setCell hB2 (p := ⟨w.heap.size, 2, none⟩) (Nat.le_refl _) (.int .i64 (hs0 - xq))
    refine (HP.out _ xa xt (hs0 - xq) (HS.out _ hBs)).mono ?_
    rw [putL_eq]
    rintro e w4 ⟨⟨A5, c5, rfl, own5⟩, hb⟩
    have hB4 := since_step hBs hb
    have own5 := own_base own5 hBs.size
    go_wp2_with fail
    go_ret2
    rw [HR.out]
    exact ⟨⟨A5, c5, rfl, own5⟩, hB4⟩
end Go.Proofs.Ytfagpdnckmaomaa
