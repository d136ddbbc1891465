/-
  Layer 18, fifth part: set in plain terms, Take of the document (laid by gen_lots5.py).
-/
import Derived.Test.YtfagpdnckmaomaaLots4
namespace Go.Proofs.Ytfagpdnckmaomaa
open Go.ChangeShapes Go.WideShapes Go.ChangeAt Go.RowKit
set_option linter.unusedVariables false
set_option linter.unusedSimpArgs false

theorem ahL_iff (a b : Lt) : ahL a b = true ↔ ltL a b := by unfold ahL; simp
theorem ordL : Ord ahL where
  tr := by intro a b c h1 h2; rw [ahL_iff] at *; unfold ltL at *; omega
  asy := by intro a b h; rw [ahL_iff] at h; rw [← Bool.not_eq_true, ahL_iff]; unfold ltL at *; omega
  cong := by intro a x b h1 h2; rw [← Bool.not_eq_true, ahL_iff] at h1 h2; rw [Bool.eq_iff_iff, ahL_iff, ahL_iff]; unfold ltL at *; omega
  cong2 := by intro a x b h1 h2; rw [← Bool.not_eq_true, ahL_iff] at h1 h2; rw [Bool.eq_iff_iff, ahL_iff, ahL_iff]; unfold ltL at *; omega
theorem isLs_sorted {l : List Lt} (h : isLs l = true) : l.Pairwise (fun a b => ahL a b = true) := by
  unfold isLs at h
  simp only [Bool.and_eq_true] at h
  exact (rising_pairwise ordL l).1 h.2
theorem sameL_iff (a t : Int) (y : Lt) : sameL a t y = true ↔ y.ast = a ∧ y.tag = t := by unfold sameL; simp
theorem sameL_of {x a : Lt} (h1 : ahL a x = false) (h2 : ahL x a = false) : sameL x.ast x.tag a = true := by
  rw [← Bool.not_eq_true, ahL_iff] at h1 h2
  rw [sameL_iff]; unfold ltL at *; omega
theorem sameL_no {x a : Lt} (h : ahL a x = true ∨ ahL x a = true) : sameL x.ast x.tag a = false := by
  rw [← Bool.not_eq_true, sameL_iff]
  rw [ahL_iff, ahL_iff] at h
  unfold ltL at h; omega
theorem setF_true (x : Lt) : ∀ l : List Lt, setF x true l = l.filter fun y => !sameL x.ast x.tag y
  | [] => rfl
  | a :: r => by
    unfold setF
    rw [if_neg (by simp), setF_true x r, List.filter_cons]
    cases h : sameL x.ast x.tag a <;> simp
theorem setF_false (x : Lt) : ∀ {l : List Lt}, l.Pairwise (fun a b => ahL a b = true) → setF x false l = putR ahL l x
  | [], _ => rfl
  | a :: r, h => by
    obtain ⟨h1, h2⟩ := List.pairwise_cons.1 h
    unfold setF putR
    cases hax : ahL a x with
    | true =>
      rw [if_neg (by simp), sameL_no (.inl hax), if_neg (by simp), if_pos rfl, setF_false x h2]
    | false =>
      rw [if_pos ⟨rfl, rfl⟩, setF_true]
      have hr : (r.filter fun y => !sameL x.ast x.tag y) = r := by
        rw [List.filter_eq_self]
        intro y hy
        have hay := h1 y hy
        have : ahL x y = true := by
          rw [← Bool.not_eq_true, ahL_iff] at hax
          rw [ahL_iff] at hay ⊢
          unfold ltL at *; omega
        rw [sameL_no (.inr this)]; rfl
      rw [hr]
      cases hxa : ahL x a with
      | true => rw [sameL_no (.inr hxa)]; simp
      | false => rw [sameL_of hax hxa]; simp
theorem setF_zero {l : List Lt} {x : Lt} (h : x.qty = 0) : setF x (x.qty == 0) l = l.filter fun y => !sameL x.ast x.tag y := by rw [h]; exact setF_true x l
theorem setF_put {l : List Lt} {x : Lt} (hl : isLs l = true) (h : x.qty ≠ 0) : setF x (x.qty == 0) l = putR ahL l x := by
  have : (x.qty == 0) = false := by simpa using h
  rw [this]; exact setF_false x (isLs_sorted hl)
theorem chkL_two {l : List Lt} {x : Lt} (h : chkL l x = 2) : isLs l = true ∧ okL x = false := by
  unfold chkL at h
  cases h1 : isLs l <;> cases h2 : okL x <;> simp_all
theorem chkL_three {l : List Lt} {x : Lt} (h : chkL l x = 3) : isLs l = false := by
  unfold chkL at h
  cases h1 : isLs l <;> cases h2 : okL x <;> simp_all

set_option maxHeartbeats 8000000 in
set_option maxRecDepth 100000 in
theorem rtake_any (A : Option Addr) (cap : Nat) (l : List Lt) (x : Lt) (w : World) (hl : l.length ≤ 900000) (hx : In64 x.qty) (hq : ∀ y ∈ l, In64 y.qty) (hs : Sl w A (rc Lt.cells l)) :
    Calls Try.prog 53 #[.slice A l.length cap, x.val] w fun e w' => LRes w.heap.size w' e (takeLR l x) ∧ Below w.heap.size w w' := by
  have hh64 := getL_in hq x.ast x.tag
  have hB0 := since_alloc (Below.refl _ w) (.cells x.cells.toArray 74)
  have hV0 := Lt.Bx.new w x
  have HS : Hid (∀ V, Below w.heap.size w V → Sl V A (rc Lt.cells l)) := Lib.hid fun V h => hs.below h
  have HIS := Lib.hid (fun V h => ris_any A cap l V (by omega) h)
  have HON := Lib.hid (fun V => one_any x V)
  have HG := Lib.hid (fun V h => rlget_any A cap l x.ast x.tag V (by omega) h)
  have HSET := Lib.hid (fun V q h => rset_any A cap l ⟨x.ast, x.tag, q⟩ V (by omega) h)
  clear hs
  rcases chkL_cases l x with hc | hc | hc
  · have HR : Hid (takeLR l x = (3, [])) := Lib.hid (by rw [takeLR, if_pos (by rw [hc]; decide), hc])
    have HI := Lib.hid (chkL_three hc)
    clear hc hh64 hx hq
    obtain ⟨xa, xt, xq⟩ := x
    unfold Lt.val at *
    unfold Lt.cells at hB0 hV0
    simp only at *
    go_enter Try.func53, Try.ntmps53
    go_upto_region 1 with fail
    have fz0 : (w.alloc (.cells #[.int .i64 xa, .int .i64 xt, .int .i64 xq] 74)).frozen? ⟨w.heap.size, 2, none⟩ = false := by simp
    generalize hWW : w.alloc (.cells #[.int .i64 xa, .int .i64 xt, .int .i64 xq] 74) = w0 at *
    clear hWW
    obtain ⟨q0, q1, q2⟩ := hV0.got
    simp only at q0 q1 q2
    have lq := hV0.lt
    go_wp2_with fail
    refine (HIS.out _ (HS.out _ hB0)).mono ?_
    rw [HI.out]
    rintro e w1 ⟨rfl, hb⟩
    have hB1 := since_step hB0 hb
    have hV1 := hV0.below hb
    have fz1 := (hb.frozen (p := ⟨w.heap.size, 2, none⟩) lq).trans fz0
    clear hb q0 q1 q2 lq hV0 fz0
    obtain ⟨q0, q1, q2⟩ := hV1.got
    simp only at q0 q1 q2
    have lq := hV1.lt
    go_wp2_with fail
    go_ret2
    rw [HR.out]
    exact ⟨LRes.nil _ _ _, hB1⟩
  · have HR : Hid (takeLR l x = (2, [])) := Lib.hid (by rw [takeLR, if_pos (by rw [hc]; decide), hc])
    have HI := Lib.hid (chkL_two hc).1
    have HO := Lib.hid (chkL_two hc).2
    clear hc hh64 hx hq
    obtain ⟨xa, xt, xq⟩ := x
    unfold Lt.val at *
    unfold Lt.cells at hB0 hV0
    simp only at *
    go_enter Try.func53, Try.ntmps53
    go_upto_region 1 with fail
    have fz0 : (w.alloc (.cells #[.int .i64 xa, .int .i64 xt, .int .i64 xq] 74)).frozen? ⟨w.heap.size, 2, none⟩ = false := by simp
    generalize hWW : w.alloc (.cells #[.int .i64 xa, .int .i64 xt, .int .i64 xq] 74) = w0 at *
    clear hWW
    obtain ⟨q0, q1, q2⟩ := hV0.got
    simp only at q0 q1 q2
    have lq := hV0.lt
    go_wp2_with fail
    refine (HIS.out _ (HS.out _ hB0)).mono ?_
    rw [HI.out]
    rintro e w1 ⟨rfl, hb⟩
    have hB1 := since_step hB0 hb
    have hV1 := hV0.below hb
    have fz1 := (hb.frozen (p := ⟨w.heap.size, 2, none⟩) lq).trans fz0
    clear hb q0 q1 q2 lq hV0 fz0
    obtain ⟨q0, q1, q2⟩ := hV1.got
    simp only at q0 q1 q2
    have lq := hV1.lt
    go_wp2_with fail
    refine (HON.out _).mono ?_
    rw [HO.out]
    rintro e w2 ⟨rfl, hb⟩
    have hB2 := since_step hB1 hb
    have hV2 := hV1.below hb
    have fz2 := (hb.frozen (p := ⟨w.heap.size, 2, none⟩) lq).trans fz1
    clear hb q0 q1 q2 lq hV1 fz1
    obtain ⟨q0, q1, q2⟩ := hV2.got
    simp only at q0 q1 q2
    have lq := hV2.lt
    go_wp2_with fail
    go_ret2
    rw [HR.out]
    exact ⟨LRes.nil _ _ _, hB2⟩
  obtain ⟨hi, ho⟩ := chkL_ok hc
  have hpos := okL_pos ho
  have hnn := getL_nn hi x.ast x.tag
  have hways : (getL l x.ast x.tag < x.qty) ∨ (getL l x.ast x.tag = x.qty) ∨ (x.qty < getL l x.ast x.tag) := by omega
  rcases hways with h1 | h1 | h1
  · have HR : Hid (takeLR l x = (23, [])) := Lib.hid (by rw [takeLR, if_neg (by rw [hc]; decide), if_pos h1])
    have HI := Lib.hid hi
    have HO := Lib.hid ho
    obtain ⟨hs0, hgg⟩ : ∃ v, getL l x.ast x.tag = v := ⟨_, rfl⟩
    rw [hgg] at h1
    have HH := Lib.hid hgg
    clear hgg hc hi ho hq hpos hnn hh64 hx
    obtain ⟨xa, xt, xq⟩ := x
    unfold Lt.val at *
    unfold Lt.cells at hB0 hV0
    simp only at *
    go_enter Try.func53, Try.ntmps53
    go_upto_region 1 with fail
    have fz0 : (w.alloc (.cells #[.int .i64 xa, .int .i64 xt, .int .i64 xq] 74)).frozen? ⟨w.heap.size, 2, none⟩ = false := by simp
    generalize hWW : w.alloc (.cells #[.int .i64 xa, .int .i64 xt, .int .i64 xq] 74) = w0 at *
    clear hWW
    obtain ⟨q0, q1, q2⟩ := hV0.got
    simp only at q0 q1 q2
    have lq := hV0.lt
    go_wp2_with fail
    refine (HIS.out _ (HS.out _ hB0)).mono ?_
    rw [HI.out]
    rintro e w1 ⟨rfl, hb⟩
    have hB1 := since_step hB0 hb
    have hV1 := hV0.below hb
    have fz1 := (hb.frozen (p := ⟨w.heap.size, 2, none⟩) lq).trans fz0
    clear hb q0 q1 q2 lq hV0 fz0
    obtain ⟨q0, q1, q2⟩ := hV1.got
    simp only at q0 q1 q2
    have lq := hV1.lt
    go_wp2_with fail
    refine (HON.out _).mono ?_
    rw [HO.out]
    rintro e w2 ⟨rfl, hb⟩
    have hB2 := since_step hB1 hb
    have hV2 := hV1.below hb
    have fz2 := (hb.frozen (p := ⟨w.heap.size, 2, none⟩) lq).trans fz1
    clear hb q0 q1 q2 lq hV1 fz1
    obtain ⟨q0, q1, q2⟩ := hV2.got
    simp only at q0 q1 q2
    have lq := hV2.lt
    go_wp2_with fail
    refine (HG.out _ (HS.out _ hB2)).mono ?_
    rw [HH.out]
    rintro e w3 ⟨rfl, hb⟩
    have hB3 := since_step hB2 hb
    have hV3 := hV2.below hb
    have fz3 := (hb.frozen (p := ⟨w.heap.size, 2, none⟩) lq).trans fz2
    clear hb q0 q1 q2 lq hV2 fz2
    obtain ⟨q0, q1, q2⟩ := hV3.got
    simp only at q0 q1 q2
    have lq := hV3.lt
    go_wp2_with fail
    go_ret2
    rw [HR.out]
    exact ⟨LRes.nil _ _ _, hB3⟩
  · have HR : Hid (takeLR l x = (0, l.filter fun y => !sameL x.ast x.tag y)) := Lib.hid (by rw [takeLR, if_neg (by rw [hc]; decide), if_neg (by omega), if_pos h1])
    have HI := Lib.hid hi
    have HO := Lib.hid ho
    have h1b : ¬ getL l x.ast x.tag < x.qty := by omega
    have HE : Hid (setF ⟨x.ast, x.tag, getL l x.ast x.tag - x.qty⟩ (getL l x.ast x.tag - x.qty == 0) l = l.filter fun y => !sameL x.ast x.tag y) := Lib.hid (setF_zero (x := ⟨x.ast, x.tag, getL l x.ast x.tag - x.qty⟩) (by show getL l x.ast x.tag - x.qty = 0; omega))
    have hwr : IntKind.i64.wrap (getL l x.ast x.tag - x.qty) = getL l x.ast x.tag - x.qty := IntWalk.i64_in _ (by unfold In64 at *; omega)
    obtain ⟨hs0, hgg⟩ : ∃ v, getL l x.ast x.tag = v := ⟨_, rfl⟩
    rw [hgg] at h1b hwr HE
    have HH := Lib.hid hgg
    clear hgg hc hi ho hq hpos hnn hh64 hx h1
    obtain ⟨xa, xt, xq⟩ := x
    unfold Lt.val at *
    unfold Lt.cells at hB0 hV0
    simp only at *
    go_enter Try.func53, Try.ntmps53
    go_upto_region 1 with fail
    have fz0 : (w.alloc (.cells #[.int .i64 xa, .int .i64 xt, .int .i64 xq] 74)).frozen? ⟨w.heap.size, 2, none⟩ = false := by simp
    generalize hWW : w.alloc (.cells #[.int .i64 xa, .int .i64 xt, .int .i64 xq] 74) = w0 at *
    clear hWW
    obtain ⟨q0, q1, q2⟩ := hV0.got
    simp only at q0 q1 q2
    have lq := hV0.lt
    go_wp2_with fail
    refine (HIS.out _ (HS.out _ hB0)).mono ?_
    rw [HI.out]
    rintro e w1 ⟨rfl, hb⟩
    have hB1 := since_step hB0 hb
    have hV1 := hV0.below hb
    have fz1 := (hb.frozen (p := ⟨w.heap.size, 2, none⟩) lq).trans fz0
    clear hb q0 q1 q2 lq hV0 fz0
    obtain ⟨q0, q1, q2⟩ := hV1.got
    simp only at q0 q1 q2
    have lq := hV1.lt
    go_wp2_with fail
    refine (HON.out _).mono ?_
    rw [HO.out]
    rintro e w2 ⟨rfl, hb⟩
    have hB2 := since_step hB1 hb
    have hV2 := hV1.below hb
    have fz2 := (hb.frozen (p := ⟨w.heap.size, 2, none⟩) lq).trans fz1
    clear hb q0 q1 q2 lq hV1 fz1
    obtain ⟨q0, q1, q2⟩ := hV2.got
    simp only at q0 q1 q2
    have lq := hV2.lt
    go_wp2_with fail
    refine (HG.out _ (HS.out _ hB2)).mono ?_
    rw [HH.out]
    rintro e w3 ⟨rfl, hb⟩
    have hB3 := since_step hB2 hb
    have hV3 := hV2.below hb
    have fz3 := (hb.frozen (p := ⟨w.heap.size, 2, none⟩) lq).trans fz2
    clear hb q0 q1 q2 lq hV2 fz2
    obtain ⟨q0, q1, q2⟩ := hV3.got
    simp only at q0 q1 q2
    have lq := hV3.lt
    go_wp2_with fail
    have hBs := Below.setCell hB3 (p := ⟨w.heap.size, 2, none⟩) (Nat.le_refl _) (.int .i64 (hs0 - xq))
    refine (HSET.out _ (hs0 - xq) (HS.out _ hBs)).mono ?_
    rw [HE.out]
    rintro e w4 ⟨⟨A5, c5, rfl, own5⟩, hb⟩
    have hB4 := since_step hBs hb
    have own5 := own_base own5 hBs.size
    go_wp2_with fail
    go_ret2
    rw [HR.out]
    exact ⟨⟨A5, c5, rfl, own5⟩, hB4⟩
  · have HR : Hid (takeLR l x = (0, putR ahL l ⟨x.ast, x.tag, getL l x.ast x.tag - x.qty⟩)) := Lib.hid (by rw [takeLR, if_neg (by rw [hc]; decide), if_neg (by omega), if_neg (by omega)])
    have HI := Lib.hid hi
    have HO := Lib.hid ho
    have h1b : ¬ getL l x.ast x.tag < x.qty := by omega
    have HE : Hid (setF ⟨x.ast, x.tag, getL l x.ast x.tag - x.qty⟩ (getL l x.ast x.tag - x.qty == 0) l = putR ahL l ⟨x.ast, x.tag, getL l x.ast x.tag - x.qty⟩) := Lib.hid (setF_put hi (by show getL l x.ast x.tag - x.qty ≠ 0; omega))
    have hwr : IntKind.i64.wrap (getL l x.ast x.tag - x.qty) = getL l x.ast x.tag - x.qty := IntWalk.i64_in _ (by unfold In64 at *; omega)
    obtain ⟨hs0, hgg⟩ : ∃ v, getL l x.ast x.tag = v := ⟨_, rfl⟩
    rw [hgg] at h1b hwr HE HR
    have HH := Lib.hid hgg
    clear hgg hc hi ho hq hpos hnn hh64 hx h1
    obtain ⟨xa, xt, xq⟩ := x
    unfold Lt.val at *
    unfold Lt.cells at hB0 hV0
    simp only at *
    go_enter Try.func53, Try.ntmps53
    go_upto_region 1 with fail
    have fz0 : (w.alloc (.cells #[.int .i64 xa, .int .i64 xt, .int .i64 xq] 74)).frozen? ⟨w.heap.size, 2, none⟩ = false := by simp
    generalize hWW : w.alloc (.cells #[.int .i64 xa, .int .i64 xt, .int .i64 xq] 74) = w0 at *
    clear hWW
    obtain ⟨q0, q1, q2⟩ := hV0.got
    simp only at q0 q1 q2
    have lq := hV0.lt
    go_wp2_with fail
    refine (HIS.out _ (HS.out _ hB0)).mono ?_
    rw [HI.out]
    rintro e w1 ⟨rfl, hb⟩
    have hB1 := since_step hB0 hb
    have hV1 := hV0.below hb
    have fz1 := (hb.frozen (p := ⟨w.heap.size, 2, none⟩) lq).trans fz0
    clear hb q0 q1 q2 lq hV0 fz0
    obtain ⟨q0, q1, q2⟩ := hV1.got
    simp only at q0 q1 q2
    have lq := hV1.lt
    go_wp2_with fail
    refine (HON.out _).mono ?_
    rw [HO.out]
    rintro e w2 ⟨rfl, hb⟩
    have hB2 := since_step hB1 hb
    have hV2 := hV1.below hb
    have fz2 := (hb.frozen (p := ⟨w.heap.size, 2, none⟩) lq).trans fz1
    clear hb q0 q1 q2 lq hV1 fz1
    obtain ⟨q0, q1, q2⟩ := hV2.got
    simp only at q0 q1 q2
    have lq := hV2.lt
    go_wp2_with fail
    refine (HG.out _ (HS.out _ hB2)).mono ?_
    rw [HH.out]
    rintro e w3 ⟨rfl, hb⟩
    have hB3 := since_step hB2 hb
    have hV3 := hV2.below hb
    have fz3 := (hb.frozen (p := ⟨w.heap.size, 2, none⟩) lq).trans fz2
    clear hb q0 q1 q2 lq hV2 fz2
    obtain ⟨q0, q1, q2⟩ := hV3.got
    simp only at q0 q1 q2
    have lq := hV3.lt
    go_wp2_with fail
    have hBs := Below.setCell hB3 (p := ⟨w.heap.size, 2, none⟩) (Nat.le_refl _) (.int .i64 (hs0 - xq))
    refine (HSET.out _ (hs0 - xq) (HS.out _ hBs)).mono ?_
    rw [HE.out]
    rintro e w4 ⟨⟨A5, c5, rfl, own5⟩, hb⟩
    have hB4 := since_step hBs hb
    have own5 := own_base own5 hBs.size
    go_wp2_with fail
    go_ret2
    rw [HR.out]
    exact ⟨⟨A5, c5, rfl, own5⟩, hB4⟩
end Go.Proofs.Ytfagpdnckmaomaa
