import Derived.Test.YtldnponbkhgijaaHP05
import Derived.Deep.CutBlock
import Derived.Deep.CutRange
import Derived.Deep.DeepCutAuto
import Derived.Test.YtldnponbkhgijaaHP03
import Derived.Test.YtldnponbkhgijaaHP04
import Derived.Lib.ItoaNum
section
namespace Go.Proofs.Ytldnponbkhgijaa
open Go.ChangeShapes Go.WideShapes Go.ChangeAt Go.RowKit
set_option linter.unusedVariables false
set_option linter.unusedSimpArgs false

theorem ahL_iff (a b : Lt) : ahL a b = true ↔ ltL a b := by unfold ahL; simp
theorem ordL : Ord ahL where
  tr := by intro a b c h1 h2; rw [ahL_iff] at *; unfold ltL at *; omega
  asy := by intro a b h; rw [ahL_iff] at h; rw [← Bool.not_eq_true, ahL_iff]; unfold ltL at *; omega
  cong := by intro a x b h1 h2; rw [← Bool.not_eq_true, ahL_iff] at h1 h2; rw [Bool.eq_iff_iff, ahL_iff, ahL_iff]; unfold ltL at *; omega
  cong2 := by intro a x b h1 h2; rw [← Bool.not_eq_true, ahL_iff] at h1 h2; rw [Bool.eq_iff_iff, ahL_iff, ahL_iff]; unfold ltL at *; omega
theorem isLs_sorted {l : List Lt} (h : isLs l = true) : l.Pairwise (fun a b => ahL a b = true) := by
  unfold isLs at h
  simp only [Bool.and_eq_true] at h
  exact (rising_pairwise ordL l).1 h.2
theorem sameL_iff (a t : Int) (y : Lt) : sameL a t y = true ↔ y.ast = a ∧ y.tag = t := by unfold sameL; simp
theorem sameL_of {x a : Lt} (h1 : ahL a x = false) (h2 : ahL x a = false) : sameL x.ast x.tag a = true := by
  rw [← Bool.not_eq_true, ahL_iff] at h1 h2
  rw [sameL_iff]; unfold ltL at *; omega
theorem sameL_no {x a : Lt} (h : ahL a x = true ∨ ahL x a = true) : sameL x.ast x.tag a = false := by
  rw [← Bool.not_eq_true, sameL_iff]
  rw [ahL_iff, ahL_iff] at h
  unfold ltL at h; omega
theorem setF_true (x : Lt) : ∀ l : List Lt, setF x true l = l.filter fun y => !sameL x.ast x.tag y
  | [] => rfl
  | a :: r => by
    unfold setF
    rw [if_neg (by simp), setF_true x r, List.filter_cons]
    cases h : sameL x.ast x.tag a <;> simp
theorem setF_false (x : Lt) : ∀ {l : List Lt}, l.Pairwise (fun a b => ahL a b = true) → setF x false l = putR ahL l x
  | [], _ => rfl
  | a :: r, h => by
    obtain ⟨h1, h2⟩ := List.pairwise_cons.1 h
    unfold setF putR
    cases hax : ahL a x with
    | true =>
      rw [if_neg (by simp), sameL_no (.inl hax), if_neg (by simp), if_pos rfl, setF_false x h2]
    | false =>
      rw [if_pos ⟨rfl, rfl⟩, setF_true]
      have hr : (r.filter fun y => !sameL x.ast x.tag y) = r := by
        rw [List.filter_eq_self]
        intro y hy
        have hay := h1 y hy
        have : ahL x y = true := by
          rw [← Bool.not_eq_true, ahL_iff] at hax
          rw [ahL_iff] at hay ⊢
          unfold ltL at *; omega
        rw [sameL_no (.inr this)]; rfl
      rw [hr]
      cases hxa : ahL x a with
      | true => rw [sameL_no (.inr hxa)]; simp
      | false => rw [sameL_of hax hxa]; simp
theorem setF_zero {l : List Lt} {x : Lt} (h : x.qty = 0) : setF x (x.qty == 0) l = l.filter fun y => !sameL x.ast x.tag y := by rw [h]; exact setF_true x l
theorem setF_put {l : List Lt} {x : Lt} (hl : isLs l = true) (h : x.qty ≠ 0) : setF x (x.qty == 0) l = putR ahL l x := by
  have : (x.qty == 0) = false := by simpa using h
  rw [this]; exact setF_false x (isLs_sorted hl)
theorem chkL_two {l : List Lt} {x : Lt} (h : chkL l x = 2) : isLs l = true ∧ okL x = false := by
  unfold chkL at h
  cases h1 : isLs l <;> cases h2 : okL x <;> simp_all
theorem chkL_three {l : List Lt} {x : Lt} (h : chkL l x = 3) : isLs l = false := by
  unfold chkL at h
  cases h1 : isLs l <;> cases h2 : okL x <;> simp_all
set_option maxHeartbeats 8000000 in
set_option maxRecDepth 100000 in
theorem rtake_any (A : Option Addr) (cap : Nat) (l : List Lt) (x : Lt) (w : World) (hl : l.length ≤ 900000) (hx : In64 x.qty) (hq : ∀ y ∈ l, In64 y.qty) (hs : Sl w A (rc Lt.cells l)) :
    Calls Try.prog 134 #[.slice A l.length cap, x.val] w fun e w' => LRes w.heap.size w' e (takeLR l x) ∧ Below w.heap.size w w' := by
  have hh64 := getL_in hq x.ast x.tag
  have hB0 := since_alloc (Below.refl _ w) (.cells x.cells.toArray 93)
  have hV0 := Lt.Bx.new w x
  have HS : Hid (∀ V, Below w.heap.size w V → Sl V A (rc Lt.cells l)) := Lib.hid fun V h => hs.below h
  have HIS := Lib.hid (fun V h => ris_any A cap l V (by omega) h)
  have HON := Lib.hid (fun V => one_any x V)
  have HG := Lib.hid (fun V h => rlget_any A cap l x.ast x.tag V (by omega) h)
  have HSET := Lib.hid (fun V q h => rset_any A cap l ⟨x.ast, x.tag, q⟩ V (by omega) h)
  clear hs
  rcases chkL_cases l x with hc | hc | hc
  · have HR : Hid (takeLR l x = (3, [])) := Lib.hid (by rw [takeLR, if_pos (by rw [hc]; decide), hc])
    have HI := Lib.hid (chkL_three hc)
    clear hc hh64 hx hq
    obtain ⟨xa, xt, xq⟩ := x
    unfold Lt.val at *
    unfold Lt.cells at hB0 hV0
    simp only at *
    go_enter Try.func134, Try.ntmps134
    go_upto_region 1 with fail
    have fz0 : (w.alloc (.cells #[.int .i64 xa, .int .i64 xt, .int .i64 xq] 93)).frozen? ⟨w.heap.size, 2, none⟩ = false := by simp
    generalize hWW : w.alloc (.cells #[.int .i64 xa, .int .i64 xt, .int .i64 xq] 93) = w0 at *
    clear hWW
    obtain ⟨q0, q1, q2⟩ := hV0.got
    simp only at q0 q1 q2
    have lq := hV0.lt
    go_wp2_with fail
    refine (HIS.out _ (HS.out _ hB0)).mono ?_
    rw [HI.out]
    rintro e w1 ⟨rfl, hb⟩
    have hB1 := since_step hB0 hb
    have hV1 := hV0.below hb
    have fz1 := (hb.frozen (p := ⟨w.heap.size, 2, none⟩) lq).trans fz0
    clear hb q0 q1 q2 lq hV0 fz0
    obtain ⟨q0, q1, q2⟩ := hV1.got
    simp only at q0 q1 q2
    have lq := hV1.lt
    go_wp2_with fail
    go_ret2
    rw [HR.out]
    exact ⟨LRes.nil _ _ _, hB1⟩
  · have HR : Hid (takeLR l x = (2, [])) := Lib.hid (by rw [takeLR, if_pos (by rw [hc]; decide), hc])
    have HI := Lib.hid (chkL_two hc).1
    have HO := Lib.hid (chkL_two hc).2
    clear hc hh64 hx hq
    obtain ⟨xa, xt, xq⟩ := x
    unfold Lt.val at *
    unfold Lt.cells at hB0 hV0
    simp only at *
    go_enter Try.func134, Try.ntmps134
    go_upto_region 1 with fail
    have fz0 : (w.alloc (.cells #[.int .i64 xa, .int .i64 xt, .int .i64 xq] 93)).frozen? ⟨w.heap.size, 2, none⟩ = false := by simp
    generalize hWW : w.alloc (.cells #[.int .i64 xa, .int .i64 xt, .int .i64 xq] 93) = w0 at *
    clear hWW
    obtain ⟨q0, q1, q2⟩ := hV0.got
    simp only at q0 q1 q2
    have lq := hV0.lt
    go_wp2_with fail
    refine (HIS.out _ (HS.out _ hB0)).mono ?_
    rw [HI.out]
    rintro e w1 ⟨rfl, hb⟩
    have hB1 := since_step hB0 hb
    have hV1 := hV0.below hb
    have fz1 := (hb.frozen (p := ⟨w.heap.size, 2, none⟩) lq).trans fz0
    clear hb q0 q1 q2 lq hV0 fz0
    obtain ⟨q0, q1, q2⟩ := hV1.got
    simp only at q0 q1 q2
    have lq := hV1.lt
    go_wp2_with fail
    refine (HON.out _).mono ?_
    rw [HO.out]
    rintro e w2 ⟨rfl, hb⟩
    have hB2 := since_step hB1 hb
    have hV2 := hV1.below hb
    have fz2 := (hb.frozen (p := ⟨w.heap.size, 2, none⟩) lq).trans fz1
    clear hb q0 q1 q2 lq hV1 fz1
    obtain ⟨q0, q1, q2⟩ := hV2.got
    simp only at q0 q1 q2
    have lq := hV2.lt
    go_wp2_with fail
    go_ret2
    rw [HR.out]
    exact ⟨LRes.nil _ _ _, hB2⟩
  obtain ⟨hi, ho⟩ := chkL_ok hc
  have hpos := okL_pos ho
  have hnn := getL_nn hi x.ast x.tag
  have hways : (getL l x.ast x.tag < x.qty) ∨ (getL l x.ast x.tag = x.qty) ∨ (x.qty < getL l x.ast x.tag) := by omega
  rcases hways with h1 | h1 | h1
  · have HR : Hid (takeLR l x = (23, [])) := Lib.hid (by rw [takeLR, if_neg (by rw [hc]; decide), if_pos h1])
    have HI := Lib.hid hi
    have HO := Lib.hid ho
    obtain ⟨hs0, hgg⟩ : ∃ v, getL l x.ast x.tag = v := ⟨_, rfl⟩
    rw [hgg] at h1
    have HH := Lib.hid hgg
    clear hgg hc hi ho hq hpos hnn hh64 hx
    obtain ⟨xa, xt, xq⟩ := x
    unfold Lt.val at *
    unfold Lt.cells at hB0 hV0
    simp only at *
    go_enter Try.func134, Try.ntmps134
    go_upto_region 1 with fail
    have fz0 : (w.alloc (.cells #[.int .i64 xa, .int .i64 xt, .int .i64 xq] 93)).frozen? ⟨w.heap.size, 2, none⟩ = false := by simp
    generalize hWW : w.alloc (.cells #[.int .i64 xa, .int .i64 xt, .int .i64 xq] 93) = w0 at *
    clear hWW
    obtain ⟨q0, q1, q2⟩ := hV0.got
    simp only at q0 q1 q2
    have lq := hV0.lt
    go_wp2_with fail
    refine (HIS.out _ (HS.out _ hB0)).mono ?_
    rw [HI.out]
    rintro e w1 ⟨rfl, hb⟩
    have hB1 := since_step hB0 hb
    have hV1 := hV0.below hb
    have fz1 := (hb.frozen (p := ⟨w.heap.size, 2, none⟩) lq).trans fz0
    clear hb q0 q1 q2 lq hV0 fz0
    obtain ⟨q0, q1, q2⟩ := hV1.got
    simp only at q0 q1 q2
    have lq := hV1.lt
    go_wp2_with fail
    refine (HON.out _).mono ?_
    rw [HO.out]
    rintro e w2 ⟨rfl, hb⟩
    have hB2 := since_step hB1 hb
    have hV2 := hV1.below hb
    have fz2 := (hb.frozen (p := ⟨w.heap.size, 2, none⟩) lq).trans fz1
    clear hb q0 q1 q2 lq hV1 fz1
    obtain ⟨q0, q1, q2⟩ := hV2.got
    simp only at q0 q1 q2
    have lq := hV2.lt
    go_wp2_with fail
    refine (HG.out _ (HS.out _ hB2)).mono ?_
    rw [HH.out]
    rintro e w3 ⟨rfl, hb⟩
    have hB3 := since_step hB2 hb
    have hV3 := hV2.below hb
    have fz3 := (hb.frozen (p := ⟨w.heap.size, 2, none⟩) lq).trans fz2
    clear hb q0 q1 q2 lq hV2 fz2
    obtain ⟨q0, q1, q2⟩ := hV3.got
    simp only at q0 q1 q2
    have lq := hV3.lt
    go_wp2_with fail
    go_ret2
    rw [HR.out]
    exact ⟨LRes.nil _ _ _, hB3⟩
  · have HR : Hid (takeLR l x = (0, l.filter fun y => !sameL x.ast x.tag y)) := Lib.hid (by rw [takeLR, if_neg (by rw [hc]; decide), if_neg (by omega), if_pos h1])
    have HI := Lib.hid hi
    have HO := Lib.hid ho
    have h1b : ¬ getL l x.ast x.tag < x.qty := by omega
    have HE : Hid (setF ⟨x.ast, x.tag, getL l x.ast x.tag - x.qty⟩ (getL l x.ast x.tag - x.qty == 0) l = l.filter fun y => !sameL x.ast x.tag y) := Lib.hid (setF_zero (x := ⟨x.ast, x.tag, getL l x.ast x.tag - x.qty⟩) (by show getL l x.ast x.tag - x.qty = 0; omega))
    have hwr : IntKind.i64.wrap (getL l x.ast x.tag - x.qty) = getL l x.ast x.tag - x.qty := IntWalk.i64_in _ (by unfold In64 at *; omega)
    obtain ⟨hs0, hgg⟩ : ∃ v, getL l x.ast x.tag = v := ⟨_, rfl⟩
    rw [hgg] at h1b hwr HE
    have HH := Lib.hid hgg
    clear hgg hc hi ho hq hpos hnn hh64 hx h1
    obtain ⟨xa, xt, xq⟩ := x
    unfold Lt.val at *
    unfold Lt.cells at hB0 hV0
    simp only at *
    go_enter Try.func134, Try.ntmps134
    go_upto_region 1 with fail
    have fz0 : (w.alloc (.cells #[.int .i64 xa, .int .i64 xt, .int .i64 xq] 93)).frozen? ⟨w.heap.size, 2, none⟩ = false := by simp
    generalize hWW : w.alloc (.cells #[.int .i64 xa, .int .i64 xt, .int .i64 xq] 93) = w0 at *
    clear hWW
    obtain ⟨q0, q1, q2⟩ := hV0.got
    simp only at q0 q1 q2
    have lq := hV0.lt
    go_wp2_with fail
    refine (HIS.out _ (HS.out _ hB0)).mono ?_
    rw [HI.out]
    rintro e w1 ⟨rfl, hb⟩
    have hB1 := since_step hB0 hb
    have hV1 := hV0.below hb
    have fz1 := (hb.frozen (p := ⟨w.heap.size, 2, none⟩) lq).trans fz0
    clear hb q0 q1 q2 lq hV0 fz0
    obtain ⟨q0, q1, q2⟩ := hV1.got
    simp only at q0 q1 q2
    have lq := hV1.lt
    go_wp2_with fail
    refine (HON.out _).mono ?_
    rw [HO.out]
    rintro e w2 ⟨rfl, hb⟩
    have hB2 := since_step hB1 hb
    have hV2 := hV1.below hb
    have fz2 := (hb.frozen (p := ⟨w.heap.size, 2, none⟩) lq).trans fz1
    clear hb q0 q1 q2 lq hV1 fz1
    obtain ⟨q0, q1, q2⟩ := hV2.got
    simp only at q0 q1 q2
    have lq := hV2.lt
    go_wp2_with fail
    refine (HG.out _ (HS.out _ hB2)).mono ?_
    rw [HH.out]
    rintro e w3 ⟨rfl, hb⟩
    have hB3 := since_step hB2 hb
    have hV3 := hV2.below hb
    have fz3 := (hb.frozen (p := ⟨w.heap.size, 2, none⟩) lq).trans fz2
    clear hb q0 q1 q2 lq hV2 fz2
    obtain ⟨q0, q1, q2⟩ := hV3.got
    simp only at q0 q1 q2
    have lq := hV3.lt
    go_wp2_with fail
    have hBs := Below.setCell hB3 (p := ⟨w.heap.size, 2, none⟩) (Nat.le_refl _) (.int .i64 (hs0 - xq))
    refine (HSET.out _ (hs0 - xq) (HS.out _ hBs)).mono ?_
    rw [HE.out]
    rintro e w4 ⟨⟨A5, c5, rfl, own5⟩, hb⟩
    have hB4 := since_step hBs hb
    have own5 := own_base own5 hBs.size
    go_wp2_with fail
    go_ret2
    rw [HR.out]
    exact ⟨⟨A5, c5, rfl, own5⟩, hB4⟩
  · have HR : Hid (takeLR l x = (0, putR ahL l ⟨x.ast, x.tag, getL l x.ast x.tag - x.qty⟩)) := Lib.hid (by rw [takeLR, if_neg (by rw [hc]; decide), if_neg (by omega), if_neg (by omega)])
    have HI := Lib.hid hi
    have HO := Lib.hid ho
    have h1b : ¬ getL l x.ast x.tag < x.qty := by omega
    have HE : Hid (setF ⟨x.ast, x.tag, getL l x.ast x.tag - x.qty⟩ (getL l x.ast x.tag - x.qty == 0) l = putR ahL l ⟨x.ast, x.tag, getL l x.ast x.tag - x.qty⟩) := Lib.hid (setF_put hi (by show getL l x.ast x.tag - x.qty ≠ 0; omega))
    have hwr : IntKind.i64.wrap (getL l x.ast x.tag - x.qty) = getL l x.ast x.tag - x.qty := IntWalk.i64_in _ (by unfold In64 at *; omega)
    obtain ⟨hs0, hgg⟩ : ∃ v, getL l x.ast x.tag = v := ⟨_, rfl⟩
    rw [hgg] at h1b hwr HE HR
    have HH := Lib.hid hgg
    clear hgg hc hi ho hq hpos hnn hh64 hx h1
    obtain ⟨xa, xt, xq⟩ := x
    unfold Lt.val at *
    unfold Lt.cells at hB0 hV0
    simp only at *
    go_enter Try.func134, Try.ntmps134
    go_upto_region 1 with fail
    have fz0 : (w.alloc (.cells #[.int .i64 xa, .int .i64 xt, .int .i64 xq] 93)).frozen? ⟨w.heap.size, 2, none⟩ = false := by simp
    generalize hWW : w.alloc (.cells #[.int .i64 xa, .int .i64 xt, .int .i64 xq] 93) = w0 at *
    clear hWW
    obtain ⟨q0, q1, q2⟩ := hV0.got
    simp only at q0 q1 q2
    have lq := hV0.lt
    go_wp2_with fail
    refine (HIS.out _ (HS.out _ hB0)).mono ?_
    rw [HI.out]
    rintro e w1 ⟨rfl, hb⟩
    have hB1 := since_step hB0 hb
    have hV1 := hV0.below hb
    have fz1 := (hb.frozen (p := ⟨w.heap.size, 2, none⟩) lq).trans fz0
    clear hb q0 q1 q2 lq hV0 fz0
    obtain ⟨q0, q1, q2⟩ := hV1.got
    simp only at q0 q1 q2
    have lq := hV1.lt
    go_wp2_with fail
    refine (HON.out _).mono ?_
    rw [HO.out]
    rintro e w2 ⟨rfl, hb⟩
    have hB2 := since_step hB1 hb
    have hV2 := hV1.below hb
    have fz2 := (hb.frozen (p := ⟨w.heap.size, 2, none⟩) lq).trans fz1
    clear hb q0 q1 q2 lq hV1 fz1
    obtain ⟨q0, q1, q2⟩ := hV2.got
    simp only at q0 q1 q2
    have lq := hV2.lt
    go_wp2_with fail
    refine (HG.out _ (HS.out _ hB2)).mono ?_
    rw [HH.out]
    rintro e w3 ⟨rfl, hb⟩
    have hB3 := since_step hB2 hb
    have hV3 := hV2.below hb
    have fz3 := (hb.frozen (p := ⟨w.heap.size, 2, none⟩) lq).trans fz2
    clear hb q0 q1 q2 lq hV2 fz2
    obtain ⟨q0, q1, q2⟩ := hV3.got
    simp only at q0 q1 q2
    have lq := hV3.lt
    go_wp2_with fail
    have hBs := Below.setCell hB3 (p := ⟨w.heap.size, 2, none⟩) (Nat.le_refl _) (.int .i64 (hs0 - xq))
    refine (HSET.out _ (hs0 - xq) (HS.out _ hBs)).mono ?_
    rw [HE.out]
    rintro e w4 ⟨⟨A5, c5, rfl, own5⟩, hb⟩
    have hB4 := since_step hBs hb
    have own5 := own_base own5 hBs.size
    go_wp2_with fail
    go_ret2
    rw [HR.out]
    exact ⟨⟨A5, c5, rfl, own5⟩, hB4⟩
end Go.Proofs.Ytldnponbkhgijaa
end
section
namespace Go.Proofs.Ytldnponbkhgijaa
open Go.ChangeShapes Go.WideShapes Go.ChangeAt Go.RowKit
set_option linter.unusedVariables false
set_option linter.unusedSimpArgs false
theorem bval_dropkR (l : List Nat) (j : Nat) (h : j < l.length) : bval (l.drop j) = l[j] + 2 * bval (l.drop (j + 1)) := by
  rw [List.drop_eq_getElem_cons h]; rfl
theorem BigAt.l64 {w : World} {s : Bool} {A : Option Addr} {n c : Nat} {z : Int} (h : BigAt w s A n c z) (hz : In64 z) : n ≤ 64 := (h.len (k := 64)).2 (by unfold In64 at hz; simp; omega)
set_option maxRecDepth 100000 in
set_option maxHeartbeats 4000000 in
theorem rint_any (x : Int) (hin : In64 x) (s : Bool) (A : Option Addr) (n c : Nat) (w : World) (hx : BigAt w s A n c x) :
    Calls Try.prog 55 #[.agg #[.bool s, .slice A n c]] w fun e w' => e = .returned (.int .i64 x) ∧ Below w.heap.size w w' := by
  have la := hx.l64 hin
  obtain ⟨a, h1, h2, h3, h4, h5, h6, h7⟩ := hx.ex
  subst h1
  clear hx h6
  have P1 := BB.new w s A a.length c 35
  have hB0 := since_alloc (Below.refl _ w) (.cells #[.bool s, .slice A a.length c] 35)
  have S1 := h4.below hB0
  have H7 := Lib.hid h7
  have HI := Lib.hid hin
  clear h7 hin h4
  go_enter Try.func55, Try.ntmps55
  go_upto_region 1 with fail
  generalize w.alloc (.cells #[.bool s, .slice A a.length c] 35) = W0 at *
  obtain ⟨p0, p1, p2, p3, p4⟩ := _root_.id P1
  go_wp2_with fail
  go_loopw [3, 4] (fun vn vi wr => ∃ (k : Nat) (v : Int), vi = .int .i64 k ∧ vn = .int .i64 v ∧ k ≤ a.length ∧ v = (if s = true then -(bval (a.drop k) : Int) else (bval (a.drop k) : Int)) ∧ Below W0.heap.size W0 wr) (fun _ i _ => (intOf i).toNat)
  case atStart => exact ⟨a.length, 0, rfl, rfl, by omega, by simp [bval], Below.refl _ _⟩
  case round =>
    obtain ⟨k, v, rfl, rfl, hk, hv, hB⟩ := hrel
    obtain ⟨q0, q1, q2, q3, q4⟩ := P1.below hB
    clear p0 p1 p2 p3 p4
    by_cases hk0 : 0 < k
    · obtain ⟨j, hj⟩ : ∃ j, k = j + 1 := ⟨k - 1, by omega⟩
      have hlt : j < a.length := by omega
      obtain ⟨bb, o, rfl, hz⟩ := (S1.below hB).byte hlt
      have hbr := World.block_lt_of_cell? _ _ hz
      have hbit := h5.1.at_ hlt
      have hdr : bval (a.drop j) = a[j] + 2 * bval (a.drop k) := by rw [bval_dropkR a j hlt, ← hj]
      have hle : bval (a.drop j) ≤ bval a := by
        have h8 := bval_drop a j (by omega)
        have h9 : 1 * bval (a.drop j) ≤ 2 ^ j * bval (a.drop j) := Nat.mul_le_mul_right _ (Nat.two_pow_pos j)
        omega
      have hin := HI.out
      have h7 := H7.out
      unfold In64 at hin
      have HJ := Lib.hid hj
      have HDR := Lib.hid hdr
      have f1 : IntKind.i64.wrap ((k : Int) - 1) = (j : Int) := by rw [IntKind.wrap_i64]; omega
      have d1 : decide (0 < (k : Int)) = true := decide_eq_true (by omega)
      have d1' : decide (0 < k) = true := decide_eq_true hk0
      generalize hdj : bval (a.drop j) = dj at *
      generalize hdk : bval (a.drop k) = dk at *
      generalize a[j] = bt at *
      have f2 : IntKind.i64.wrap (bt : Int) = (bt : Int) := by rw [IntKind.wrap_i64]; omega
      cases s with
      | false =>
        simp only [Bool.false_eq_true, if_false] at hv h7
        have f3 : IntKind.i64.wrap (2 * v) = 2 * v := by rw [IntKind.wrap_i64]; omega
        have f4 : IntKind.i64.wrap (2 * v + (bt : Int)) = (dj : Int) := by rw [IntKind.wrap_i64]; omega
        have HDJ := Lib.hid hdj
        clear hdr hle hin h7 hdj hdk hv hj
        go_wp2
        go_roundw
        case rel => exact ⟨j, (dj : Int), rfl, rfl, by omega, by simp [HDJ.out], hB⟩
        case measure => have := HJ.out; simp [intOf]; omega
      | true =>
        simp only [if_true] at hv h7
        have f3 : IntKind.i64.wrap (2 * v) = 2 * v := by rw [IntKind.wrap_i64]; omega
        have f4 : IntKind.i64.wrap (2 * v - (bt : Int)) = -(dj : Int) := by rw [IntKind.wrap_i64]; omega
        have HDJ := Lib.hid hdj
        clear hdr hle hin h7 hdj hdk hv hj
        go_wp2
        go_roundw
        case rel => exact ⟨j, -(dj : Int), rfl, rfl, by omega, by simp [HDJ.out], hB⟩
        case measure => have := HJ.out; simp [intOf]; omega
    · obtain rfl : k = 0 := by omega
      rw [List.drop_zero] at hv
      have hvx : v = x := by rw [hv, H7.out]
      subst hvx
      go_wp2
      go_ret
      exact ⟨rfl, since_step hB0 hB⟩
theorem BB.new1 (w : World) (o : Obj) (s : Bool) (A : Option Addr) (n c : Nat) (t : TypeId) : BB ((w.alloc o).alloc (.cells #[.bool s, .slice A n c] t)) (w.heap.size + 1) s A n c := by
  have := BB.new (w.alloc o) s A n c t
  rwa [World.size_alloc] at this
end Go.Proofs.Ytldnponbkhgijaa
end
section
namespace Go.Proofs.Ytldnponbkhgijaa
open Go.ChangeShapes Go.WideShapes Go.ChangeAt Go.RowKit
set_option linter.unusedVariables false
set_option linter.unusedSimpArgs false

theorem in64_iff (z : Int) : inN z 63 ↔ In64 z := by rw [inN_63]; exact Iff.rfl
end Go.Proofs.Ytldnponbkhgijaa
end
section
namespace Go.Proofs.Ytldnponbkhgijaa
open Go.ChangeShapes Go.WideShapes Go.ChangeAt Go.RowKit
set_option linter.unusedVariables false
set_option linter.unusedSimpArgs false

theorem BigAt.l128 {w : World} {s : Bool} {A : Option Addr} {n c : Nat} {z : Int} (h : BigAt w s A n c z) (hz : In128 z) : n ≤ 128 := h.len.2 (by
  rw [show (2 : Nat) ^ 128 = 340282366920938463463374607431768211456 from by decide]
  unfold In128 at hz
  omega)
structure BX (B : Nat) (w : World) (g : Nat) (s : Bool) (A : Option Addr) (n c : Nat) (z : Int) : Prop where
  bb : BB w g s A n c
  at_ : BigAt w s A n c z
  fr : Fr B A n
  hg : g < B
section
variable {B : Nat} {w w' : World} {g : Nat} {s : Bool} {A : Option Addr} {n c : Nat} {z : Int}
theorem BX.below (h : BX B w g s A n c z) (hb : Below w.heap.size w w') : BX B w' g s A n c z := ⟨h.bb.below hb, h.at_.below hb, h.fr, h.hg⟩
theorem BX.alloc (h : BX B w g s A n c z) (o : Obj) : BX B (w.alloc o) g s A n c z := h.below ((Below.refl _ _).alloc (Nat.le_refl _) o)
theorem BX.drew (h : BX B w g s A n c z) : BX B w.drew g s A n c z := h.below ⟨rfl, rfl, rfl, Nat.le_refl _, fun _ _ => rfl⟩
theorem BX.set (h : BX B w g s A n c z) {p : Addr} (hp : p.block < B) (hne : p.block ≠ g) (v : Value) : BX B (w.setCell p v) g s A n c z :=
  ⟨h.bb.far hne v, h.at_.far (fun b o hA hn => by have := h.fr b o hA hn; omega) v, h.fr, h.hg⟩
theorem BX.put (h : BX B w g s A n c z) {s' : Bool} {A' : Option Addr} {n' c' : Nat} {z' : Int} (hz : BigAt w s' A' n' c' z') (hf : Fr B A' n') :
    BX B ((w.setCell ⟨g, 0, none⟩ (.bool s')).setCell ⟨g, 1, none⟩ (.slice A' n' c')) g s' A' n' c' z' := by
  have hg := h.hg
  refine ⟨h.bb.set2 s' A' n' c', ?_, hf, hg⟩
  refine BigAt.far (BigAt.far hz ?_ _) ?_ _
  · intro b o hA hn
    have := hf b o hA hn
    show b ≠ g
    omega
  · intro b o hA hn
    have := hf b o hA hn
    show b ≠ g
    omega
theorem BX.pos (h : BX B w g s A n c z) : BX B (w.setCell ⟨g, 0, none⟩ (.bool false)) g false A n c (z.natAbs : Int) := by
  have hg := h.hg
  refine ⟨?_, ?_, h.fr, hg⟩
  · obtain ⟨h0, h1, h2, f1, f2⟩ := h.bb
    refine ⟨by simpa using h0, ?_, ?_, by simpa using f1, by simpa using f2⟩ <;> simp [cell_set, h1, h2]
  · refine BigAt.far h.at_.abs ?_ _
    intro b o hA hn
    have := h.fr b o hA hn
    show b ≠ g
    omega
theorem BX.new (hB : w.heap.size < B) (t : TypeId) : BX B (w.alloc (.cells #[.bool false, .slice none 0 0] t)) w.heap.size false none 0 0 0 :=
  ⟨BB.new w false none 0 0 t, BigAt.zero _, (fun b o h => by cases h), hB⟩
end
end Go.Proofs.Ytldnponbkhgijaa
end
section
namespace Go.Proofs.Ytldnponbkhgijaa
open Go.ChangeShapes Go.WideShapes Go.ChangeAt Go.RowKit
set_option linter.unusedVariables false
set_option linter.unusedSimpArgs false

structure Dg (Y A B u d : Nat) : Prop where
  hy : Y = A * 4294967296 + B
  hb : B < 4294967296
  ha : 2147483648 ≤ A
  ha2 : A < 4294967296
  hu : u < Y
  hd : d < 4294967296
theorem lin_le (qa qb r d M : Nat) (hc : qb ≤ r * M + d) : qa * M + qb ≤ (qa + r) * M + d := by rw [Nat.add_mul]; omega
section digit
variable {Y A B u d : Nat}
def dgQ (Y u d : Nat) : Nat := (u * 4294967296 + d) / Y
theorem Dg.pos (h : Dg Y A B u d) : 0 < Y := by have := h.hu; omega
theorem Dg.le (h : Dg Y A B u d) : dgQ Y u d ≤ u / A := by
  have hA : 0 < A := by have := h.ha; omega
  rw [Nat.le_div_iff_mul_le hA]
  have h1 : dgQ Y u d * Y ≤ u * 4294967296 + d := Nat.div_mul_le_self _ _
  have h2 : dgQ Y u d * (A * 4294967296) ≤ dgQ Y u d * Y := Nat.mul_le_mul_left _ (by have := h.hy; omega)
  have h3 : dgQ Y u d * (A * 4294967296) = dgQ Y u d * A * 4294967296 := by rw [Nat.mul_assoc]
  have := h.hd
  omega
theorem Dg.q2 (h : Dg Y A B u d) : u / A ≤ 4294967297 := by
  have hA : 0 < A := by have := h.ha; omega
  have : u / A < 4294967298 := by
    rw [Nat.div_lt_iff_lt_mul hA]
    have := h.hu; have := h.hy; have := h.hb; have := h.ha
    omega
  omega
theorem Dg.done (h : Dg Y A B u d) {q r : Nat} (e : q * A + r = u) (hq : dgQ Y u d ≤ q) (hc : q * B ≤ r * 4294967296 + d) : q = dgQ Y u d := by
  have : q ≤ dgQ Y u d := by
    clear hq
    unfold dgQ
    have e2 : q * Y = q * A * 4294967296 + q * B := by rw [h.hy, Nat.mul_add q (A * 4294967296) B, Nat.mul_assoc q A 4294967296]
    rw [Nat.le_div_iff_mul_le h.pos, e2]
    subst e
    exact lin_le _ _ _ _ _ hc
  omega
theorem Dg.rest (h : Dg Y A B u d) : dgQ Y u d * Y ≤ u * 4294967296 + d ∧ u * 4294967296 + d - dgQ Y u d * Y < Y := by
  have h1 : dgQ Y u d * Y ≤ u * 4294967296 + d := Nat.div_mul_le_self _ _
  refine ⟨h1, ?_⟩
  have h2 : Y * dgQ Y u d + (u * 4294967296 + d) % Y = u * 4294967296 + d := Nat.div_add_mod _ _
  have h3 : (u * 4294967296 + d) % Y < Y := Nat.mod_lt _ h.pos
  rw [Nat.mul_comm] at h2
  omega
end digit
theorem Dg.u2 {Y A B u d u2 : Nat} (h : Dg Y A B u d) (hu : u2 = u * 4294967296 + d - dgQ Y u d * Y) : u * 4294967296 + d = dgQ Y u d * Y + u2 ∧ u2 < Y := by
  obtain ⟨h1, h2⟩ := h.rest
  rw [hu]
  refine ⟨?_, h2⟩
  generalize dgQ Y u d * Y = m at *
  omega
end Go.Proofs.Ytldnponbkhgijaa
end
