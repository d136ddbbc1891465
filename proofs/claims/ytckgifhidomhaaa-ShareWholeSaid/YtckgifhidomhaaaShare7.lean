/-
  The walks of layer 3, seventh part: Fill, Takes, lives.
-/
import Derived.Test.YtckgifhidomhaaaShare4
namespace Go.Proofs.Ytckgifhidomhaaa
open Go.ChangeShapes Go.WideShapes Go.ChangeAt Go.RowKit
set_option linter.unusedVariables false
set_option linter.unusedSimpArgs false

/-- why there are no parts that have room -/
def fillE (t : Int) (l : List Int) : Int := if mnL t l < 0 then 2 else if In64 l.sum then (if l.sum < t then 10 else splitE t l) else 7
def fillV (t : Int) (l : List Int) : List Int := if fillE t l = 0 then partsV t l else []
theorem fill_bad {t : Int} {l : List Int} (h : mnL t l < 0) : fillE t l = 2 ∧ fillV t l = [] := by
  have e : fillE t l = 2 := if_pos h
  exact ⟨e, by unfold fillV; rw [e]; rfl⟩
theorem fill_far {t : Int} {l : List Int} (h : ¬ mnL t l < 0) (hs : ¬ In64 l.sum) : fillE t l = 7 ∧ fillV t l = [] := by
  have e : fillE t l = 7 := by unfold fillE; rw [if_neg h, if_neg hs]
  exact ⟨e, by unfold fillV; rw [e]; rfl⟩
theorem fill_full {t : Int} {l : List Int} (h : ¬ mnL t l < 0) (hs : In64 l.sum) (h0 : l.sum < t) : fillE t l = 10 ∧ fillV t l = [] := by
  have e : fillE t l = 10 := by unfold fillE; rw [if_neg h, if_pos hs, if_pos h0]
  exact ⟨e, by unfold fillV; rw [e]; rfl⟩
theorem fill_ok {t : Int} {l : List Int} (h : ¬ mnL t l < 0) (hs : In64 l.sum) (h0 : ¬ l.sum < t) : fillE t l = splitE t l ∧ fillV t l = splitV t l := by
  have e : fillE t l = splitE t l := by unfold fillE; rw [if_neg h, if_pos hs, if_neg h0]
  exact ⟨e, by unfold fillV splitV; rw [e]⟩

set_option maxRecDepth 100000 in
set_option maxHeartbeats 4000000 in
theorem fill_any (t : Int) (A : Option Addr) (cap : Nat) (l : List Int) (w : World) (hl : l.length ≤ 64) (hx : All64 l) (h64 : In64 t) (hs : Sl w A (ints .i64 l)) :
    Calls Try.prog 15 #[.int .i64 t, .slice A l.length cap] w fun e w' => rowR w w' e (fillV t l) (fillE t l) ∧ Below w.heap.size w w' := by
  have HB := Lib.hid (fun W (hb : Below w.heap.size w W) => below_any t A cap l W (by omega) (hs.below hb))
  have HS := Lib.hid (fun W (hb : Below w.heap.size w W) => fsum_any A cap l W (by omega) hx (hs.below hb))
  have HP := Lib.hid (fun W (hb : Below w.heap.size w W) => split_any t A cap l W hl hx h64 (hs.below hb))
  by_cases hbad : mnL t l < 0
  · obtain ⟨e1, e2⟩ := fill_bad hbad
    rw [e1, e2]
    have HD := Lib.hid (decide_eq_true hbad)
    clear e1 e2 hbad
    go_enter Try.func15, Try.ntmps15
    go_wp2_with fail
    refine (HB.out _ (Below.refl _ _)).mono ?_
    rintro e w1 ⟨rfl, hb1⟩
    rw [HD.out]
    go_wp2_with fail
    go_ret2
    exact ⟨rowR.no _ _ _, hb1⟩
  · have HD := Lib.hid (decide_eq_false hbad)
    by_cases hin : In64 l.sum
    · have HV := Lib.hid (show fV l.sum = l.sum from if_pos hin)
      have HE := Lib.hid (show fE l.sum = 0 from if_pos hin)
      by_cases hlt : l.sum < t
      · obtain ⟨e1, e2⟩ := fill_full hbad hin hlt
        rw [e1, e2]
        clear e1 e2 hbad
        generalize l.sum = S at *
        go_enter Try.func15, Try.ntmps15
        go_wp2_with fail
        refine (HB.out _ (Below.refl _ _)).mono ?_
        rintro e w1 ⟨rfl, hb1⟩
        rw [HD.out]
        go_wp2_with fail
        refine (HS.out _ hb1).mono ?_
        rintro e w2 ⟨rfl, hb2⟩
        have hB2 := since_step hb1 hb2
        rw [HV.out, HE.out]
        clear hb1 hb2
        go_wp2_with fail
        go_ret2
        exact ⟨rowR.no _ _ _, hB2⟩
      · obtain ⟨e1, e2⟩ := fill_ok hbad hin hlt
        rw [e1, e2]
        clear e1 e2 hbad
        generalize l.sum = S at *
        go_enter Try.func15, Try.ntmps15
        go_wp2_with fail
        refine (HB.out _ (Below.refl _ _)).mono ?_
        rintro e w1 ⟨rfl, hb1⟩
        rw [HD.out]
        go_wp2_with fail
        refine (HS.out _ hb1).mono ?_
        rintro e w2 ⟨rfl, hb2⟩
        have hB2 := since_step hb1 hb2
        rw [HV.out, HE.out]
        clear hb1 hb2
        go_wp2_with fail
        refine (HP.out _ hB2).mono ?_
        rintro e w4 ⟨hr, hb4⟩
        have hB4 := since_step hB2 hb4
        have hr := hr.from hB2.size
        obtain ⟨A4, c4, rfl, hr2⟩ := hr
        clear hb4 hB2
        go_wp2_with fail
        go_ret2
        exact ⟨⟨A4, c4, rfl, hr2⟩, hB4⟩
    · obtain ⟨e1, e2⟩ := fill_far hbad hin
      rw [e1, e2]
      have HV := Lib.hid (show fV l.sum = 0 from if_neg hin)
      have HE := Lib.hid (show fE l.sum = 7 from if_neg hin)
      clear e1 e2 hbad hin
      go_enter Try.func15, Try.ntmps15
      go_wp2_with fail
      refine (HB.out _ (Below.refl _ _)).mono ?_
      rintro e w1 ⟨rfl, hb1⟩
      rw [HD.out]
      go_wp2_with fail
      refine (HS.out _ hb1).mono ?_
      rintro e w2 ⟨rfl, hb2⟩
      have hB2 := since_step hb1 hb2
      rw [HV.out, HE.out]
      clear hb1 hb2
      go_wp2_with fail
      go_ret2
      exact ⟨rowR.no _ _ _, hB2⟩

set_option maxHeartbeats 1000000 in
theorem lives3_any (w : World) : Calls Try.prog 14 #[] w fun e w' => e = .returned (.bool true) ∧ Below w.heap.size w w' := by
  have HS := fun (A : Option Addr) W (hs : Sl W A (ints .i64 [1, 1, 1])) => split_any 10 A 3 [1, 1, 1] W (by decide) (by intro x hx; simp at hx; subst hx; decide) (by decide) hs
  rw [show splitE 10 [1, 1, 1] = 0 by decide, show splitV 10 [1, 1, 1] = [4, 3, 3] by decide] at HS
  have HS := Lib.hid HS
  go_enter Try.func14, Try.ntmps14
  go_wp2_with fail
  refine (HS.out _ _ (Sl.new_ _ _ _)).mono ?_
  rintro e w1 ⟨⟨A1, c1, rfl, hc1, hs1, hf1⟩, hb1⟩
  have hB1 := since_step (since_alloc (Below.refl w.heap.size w) _) hb1
  clear hb1
  go_wp2_with fail
  refine (same_any _ _ _ _ [4, 3, 3] _ (by decide) (hs1.alloc _) (Sl.new_ _ _ _)).mono ?_
  rintro e w2 ⟨rfl, hb2⟩
  have hB2 := since_step (since_alloc hB1 _) hb2
  go_wp2_with fail
  go_ret
  exact ⟨rfl, hB2⟩
end Go.Proofs.Ytckgifhidomhaaa
