/-
  The walks of layer 3, fourth part: Split, Fill, Takes.
-/
import Derived.Test.YtckgifhidomhaaaShare3
namespace Go.Proofs.Ytckgifhidomhaaa
open Go.ChangeShapes Go.WideShapes Go.ChangeAt Go.RowKit
set_option linter.unusedVariables false
set_option linter.unusedSimpArgs false

theorem mnL_le (l : List Int) : ∀ a : Int, mnL a l ≤ a ∧ (∀ x ∈ l, mnL a l ≤ x) ∧ (mnL a l = a ∨ mnL a l ∈ l) := by
  induction l with
  | nil => intro a; simp [mnL]
  | cons y l ih =>
    intro a
    have e : mnL a (y :: l) = mnL (if y < a then y else a) l := rfl
    rw [e]
    obtain ⟨h1, h2, h3⟩ := ih (if y < a then y else a)
    generalize mnL (if y < a then y else a) l = m at *
    refine ⟨by split at h1 <;> omega, fun x hx => ?_, ?_⟩
    · rcases List.mem_cons.1 hx with rfl | hx
      · split at h1 <;> omega
      · exact h2 x hx
    · rcases h3 with h3 | h3
      · rw [h3]; split <;> simp
      · exact Or.inr (List.mem_cons_of_mem _ h3)
theorem mnL_nn {t : Int} {l : List Int} : ¬ mnL t l < 0 ↔ 0 ≤ t ∧ ∀ x ∈ l, 0 ≤ x := by
  obtain ⟨h1, h2, h3⟩ := mnL_le l t
  constructor
  · intro h; exact ⟨by omega, fun x hx => by have := h2 x hx; omega⟩
  · rintro ⟨a, b⟩ h
    rcases h3 with h3 | h3
    · omega
    · have := b _ h3; omega
theorem mxL_le (l : List Int) : ∀ a : Int, a ≤ mxL a l ∧ (∀ x ∈ l, x ≤ mxL a l) ∧ (mxL a l = a ∨ mxL a l ∈ l) := by
  induction l with
  | nil => intro a; simp [mxL]
  | cons y l ih =>
    intro a
    have e : mxL a (y :: l) = mxL (if a < y then y else a) l := rfl
    rw [e]
    obtain ⟨h1, h2, h3⟩ := ih (if a < y then y else a)
    generalize mxL (if a < y then y else a) l = m at *
    refine ⟨by split at h1 <;> omega, fun x hx => ?_, ?_⟩
    · rcases List.mem_cons.1 hx with rfl | hx
      · split at h1 <;> omega
      · exact h2 x hx
    · rcases h3 with h3 | h3
      · rw [h3]; split <;> simp
      · exact Or.inr (List.mem_cons_of_mem _ h3)
theorem mxL_zero {l : List Int} (h : ∀ x ∈ l, 0 ≤ x) : mxL 0 l = 0 ↔ l.sum = 0 := by
  obtain ⟨h1, h2, h3⟩ := mxL_le l 0
  obtain ⟨s0, s1⟩ := mem_le_sum l h
  constructor
  · intro e
    have key : ∀ m : List Int, (∀ x ∈ m, x ≤ 0) → m.sum ≤ 0 := by
      intro m
      induction m with
      | nil => intro _; simp
      | cons a m ih => intro hm; have := ih fun x hx => hm x (by simp [hx]); have := hm a (by simp); rw [List.sum_cons]; omega
    have := key l fun x hx => by have := h2 x hx; omega
    omega
  · intro e
    rcases h3 with h3 | h3
    · exact h3
    · have := s1 _ h3; omega

/-- why there are no parts, if there are none; the parts -/
def splitE (t : Int) (l : List Int) : Int := if mnL t l < 0 then 2 else if In64 l.sum then (if l.sum = 0 ∧ 0 < t then 8 else 0) else 7
def splitV (t : Int) (l : List Int) : List Int := if splitE t l = 0 then partsV t l else []
theorem split_bad {t : Int} {l : List Int} (h : mnL t l < 0) : splitE t l = 2 ∧ splitV t l = [] := by
  have e : splitE t l = 2 := if_pos h
  exact ⟨e, by unfold splitV; rw [e]; rfl⟩
theorem split_zero {t : Int} {l : List Int} (h : ¬ mnL t l < 0) (hs : l.sum = 0) (ht : 0 < t) : splitE t l = 8 ∧ splitV t l = [] := by
  have e : splitE t l = 8 := by unfold splitE; rw [if_neg h, if_pos (by rw [hs]; decide), if_pos ⟨hs, ht⟩]
  exact ⟨e, by unfold splitV; rw [e]; rfl⟩
theorem split_far {t : Int} {l : List Int} (h : ¬ mnL t l < 0) (hs : ¬ In64 l.sum) : splitE t l = 7 ∧ splitV t l = [] := by
  have e : splitE t l = 7 := by unfold splitE; rw [if_neg h, if_neg hs]
  exact ⟨e, by unfold splitV; rw [e]; rfl⟩
theorem split_ok {t : Int} {l : List Int} (h : ¬ mnL t l < 0) (hs : In64 l.sum) (h0 : ¬ (l.sum = 0 ∧ 0 < t)) : splitE t l = 0 ∧ splitV t l = partsV t l := by
  have e : splitE t l = 0 := by unfold splitE; rw [if_neg h, if_pos hs, if_neg h0]
  exact ⟨e, if_pos e⟩

theorem rowR.no (w w' : World) (E : Int) : rowR w w' (.returned (.tuple #[.slice none 0 0, .int .i64 E])) [] E := ⟨none, 0, rfl, by decide, Sl.nil, fun b o h => by cases h⟩
theorem rowR.from {w w0 w' : World} {e : Ending} {v : List Int} {E : Int} (h : rowR w0 w' e v E) (hw : w.heap.size ≤ w0.heap.size) : rowR w w' e v E := by
  obtain ⟨A, c, h1, h2, h3, h4⟩ := h
  exact ⟨A, c, h1, h2, h3, h4.le hw (Nat.le_refl _)⟩

set_option maxRecDepth 100000 in
set_option maxHeartbeats 4000000 in
theorem split_any (t : Int) (A : Option Addr) (cap : Nat) (l : List Int) (w : World) (hl : l.length ≤ 64) (hx : All64 l) (h64 : In64 t) (hs : Sl w A (ints .i64 l)) :
    Calls Try.prog 11 #[.int .i64 t, .slice A l.length cap] w fun e w' => rowR w w' e (splitV t l) (splitE t l) ∧ Below w.heap.size w w' := by
  have HB := Lib.hid (fun W (hb : Below w.heap.size w W) => below_any t A cap l W (by omega) (hs.below hb))
  by_cases hbad : mnL t l < 0
  · obtain ⟨e1, e2⟩ := split_bad hbad
    rw [e1, e2]
    have HD := Lib.hid (decide_eq_true hbad)
    clear e1 e2 hbad
    go_enter Try.func11, Try.ntmps11
    go_wp2_with fail
    refine (HB.out _ (Below.refl _ _)).mono ?_
    rintro e w1 ⟨rfl, hb1⟩
    rw [HD.out]
    go_wp2_with fail
    go_ret2
    exact ⟨rowR.no _ _ _, hb1⟩
  · obtain ⟨ht, hnn⟩ := mnL_nn.1 hbad
    have HD := Lib.hid (decide_eq_false hbad)
    have HM := Lib.hid (fun W (hb : Below w.heap.size w W) => fmost_any 0 A cap l W (by omega) (hs.below hb))
    have hmz := mxL_zero hnn
    by_cases h0 : mxL 0 l = 0
    · have hs0 := hmz.1 h0
      have H0 := Lib.hid h0
      by_cases htp : 0 < t
      · obtain ⟨e1, e2⟩ := split_zero hbad hs0 htp
        rw [e1, e2]
        clear e1 e2 hbad hmz h0 hs0
        go_enter Try.func11, Try.ntmps11
        go_wp2_with fail
        refine (HB.out _ (Below.refl _ _)).mono ?_
        rintro e w1 ⟨rfl, hb1⟩
        rw [HD.out]
        go_wp2_with fail
        refine (HM.out _ hb1).mono ?_
        rintro e w2 ⟨rfl, hb2⟩
        have hB2 := since_step hb1 hb2
        rw [H0.out]
        clear hb1 hb2
        go_wp2_with fail
        go_ret2
        exact ⟨rowR.no _ _ _, hB2⟩
      · obtain rfl : t = 0 := by omega
        obtain ⟨e1, e2⟩ := split_ok hbad (by rw [hs0]; decide) (fun h => by omega)
        rw [partsV_zero hs0] at e2
        rw [e1, e2]
        have HZ := Lib.hid (show l.map (fun _ => (0 : Int)) = List.replicate l.length 0 by simp [List.map_const'])
        clear e1 e2 hbad hmz h0 hs0
        go_enter Try.func11, Try.ntmps11
        go_wp2_with fail
        refine (HB.out _ (Below.refl _ _)).mono ?_
        rintro e w1 ⟨rfl, hb1⟩
        rw [HD.out]
        go_wp2_with fail
        refine (HM.out _ hb1).mono ?_
        rintro e w2 ⟨rfl, hb2⟩
        have hB2 := since_step hb1 hb2
        rw [H0.out]
        clear hb1 hb2
        go_wp2_with (first
          | (at_make; refine wpList_zeros rfl (.tmp 17) (.tmp 17) rfl l.length rfl rfl rfl rfl (by omega) (Nat.le_refl _) ?_; intro w3 hown3 hb3)
          | fail)
        have hB3 := since_step hB2 hb3
        go_ret2
        rw [HZ.out]
        refine ⟨⟨some ⟨w2.heap.size, 0, none⟩, l.length, by rw [List.length_replicate]; rfl, by rw [List.length_replicate]; exact ⟨Nat.le_refl _, by unfold maxLen; omega⟩, Sl.of_own hown3, ?_⟩, hB3⟩
        intro b o e hn
        injection e with e
        injection e with e
        have := hB2.size
        omega
    · have hs0 : l.sum ≠ 0 := fun h => h0 (hmz.2 h)
      have hsn := (mem_le_sum l hnn).1
      have HS := Lib.hid (fun W (hb : Below w.heap.size w W) => fsum_any A cap l W (by omega) hx (hs.below hb))
      obtain ⟨m, hm⟩ : ∃ m, m = mxL 0 l := ⟨_, rfl⟩
      by_cases hin : In64 l.sum
      · obtain ⟨e1, e2⟩ := split_ok hbad hin (fun h => hs0 h.1)
        rw [e1, e2]
        obtain ⟨S, hS⟩ : ∃ S : Nat, l.sum = (S : Int) := ⟨l.sum.toNat, by omega⟩
        have HV := Lib.hid (show fV l.sum = (S : Int) from (if_pos hin).trans hS)
        have HE := Lib.hid (show fE l.sum = 0 from if_pos hin)
        have HP := Lib.hid (fun W (hb : Below w.heap.size w W) => parts_any t S A cap l W hl hx ht h64 hnn hS (by omega) (by unfold In64 at hin; omega) (hs.below hb))
        rw [← hm] at HM h0
        clear e1 e2 hbad hmz hs0 hsn hin hm hS
        go_enter Try.func11, Try.ntmps11
        go_wp2_with fail
        refine (HB.out _ (Below.refl _ _)).mono ?_
        rintro e w1 ⟨rfl, hb1⟩
        rw [HD.out]
        go_wp2_with fail
        refine (HM.out _ hb1).mono ?_
        rintro e w2 ⟨rfl, hb2⟩
        have hB2 := since_step hb1 hb2
        clear hb1 hb2
        go_wp2_with fail
        refine (HS.out _ hB2).mono ?_
        rintro e w3 ⟨rfl, hb3⟩
        have hB3 := since_step hB2 hb3
        rw [HV.out, HE.out]
        clear hb3 hB2
        go_wp2_with fail
        refine (HP.out _ hB3).mono ?_
        rintro e w4 ⟨hr, hb4⟩
        have hB4 := since_step hB3 hb4
        have hr := hr.from hB3.size
        obtain ⟨A4, c4, rfl, hr2⟩ := hr
        clear hb4 hB3
        go_wp2_with fail
        go_ret2
        exact ⟨⟨A4, c4, rfl, hr2⟩, hB4⟩
      · obtain ⟨e1, e2⟩ := split_far hbad hin
        rw [e1, e2]
        have HV := Lib.hid (show fV l.sum = 0 from if_neg hin)
        have HE := Lib.hid (show fE l.sum = 7 from if_neg hin)
        rw [← hm] at HM h0
        clear e1 e2 hbad hmz hs0 hsn hin hm
        go_enter Try.func11, Try.ntmps11
        go_wp2_with fail
        refine (HB.out _ (Below.refl _ _)).mono ?_
        rintro e w1 ⟨rfl, hb1⟩
        rw [HD.out]
        go_wp2_with fail
        refine (HM.out _ hb1).mono ?_
        rintro e w2 ⟨rfl, hb2⟩
        have hB2 := since_step hb1 hb2
        clear hb1 hb2
        go_wp2_with fail
        refine (HS.out _ hB2).mono ?_
        rintro e w3 ⟨rfl, hb3⟩
        have hB3 := since_step hB2 hb3
        rw [HV.out, HE.out]
        clear hb3 hB2
        go_wp2_with fail
        go_ret2
        exact ⟨rowR.no _ _ _, hB3⟩
end Go.Proofs.Ytckgifhidomhaaa
