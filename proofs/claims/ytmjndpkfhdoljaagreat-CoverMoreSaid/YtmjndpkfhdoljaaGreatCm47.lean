import Derived.Test.YtmjndpkfhdoljaaGreatCm39
import Derived.Test.YtmjndpkfhdoljaaGreatCm40
import Derived.Test.YtmjndpkfhdoljaaGreatCm44
import Derived.Test.YtmjndpkfhdoljaaGreatCm46
set_option maxHeartbeats 16000000
set_option maxRecDepth 100000
set_option linter.unusedVariables false
set_option linter.unusedSimpArgs false
section
namespace Go.Proofs.YtmjndpkfhdoljaaGreat.Hq
open Go.ChangeShapes Go.WideShapes Go.ChangeAt Go.RowKit
theorem lots_same27 {cs : List Hc} (h : SoH cs) (a c : Int) (L : List Lt) : lotsH (withH cs a c L) a c = L := by
  by_cases hL : L = []
  · subst hL
    rcases lots_cases (withH cs a c []) a c with ⟨e, _⟩ | ⟨x, hx, e1, e2, e⟩
    · exact e
    · rcases (mem_with h a c [] x).1 hx with ⟨h1, _⟩ | ⟨_, h1⟩
      · exact absurd rfl h1
      · rw [unH_no] at h1; exact absurd ⟨e1, e2⟩ h1
  · exact lots_mem (x := ⟨a, c, L⟩) (with_sorted h a c L) ((mem_with h a c L _).2 (.inl ⟨hL, rfl⟩))
theorem lots_else27 {cs : List Hc} (h : SoH cs) {a c a' c' : Int} (hne : ¬ (a' = a ∧ c' = c)) (L : List Lt) : lotsH (withH cs a c L) a' c' = lotsH cs a' c' := by
  have hs := with_sorted h a c L
  rcases lots_cases cs a' c' with ⟨e, hno⟩ | ⟨x, hx, e1, e2, e⟩
  · rw [e]
    rcases lots_cases (withH cs a c L) a' c' with ⟨e, _⟩ | ⟨x, hx, e1, e2, _⟩
    · exact e
    · rcases (mem_with h a c L x).1 hx with ⟨_, rfl⟩ | ⟨h1, _⟩
      · exact absurd ⟨e1.symm, e2.symm⟩ hne
      · have := hno x h1
        rw [unH_no] at this; exact absurd ⟨e1, e2⟩ this
  · subst e1; subst e2
    rw [lots_mem h hx]
    exact lots_mem hs ((mem_with h a c L x).2 (.inr ⟨hx, by rw [unH_no]; exact hne⟩))
theorem put_lots27 {cs R : List Hc} {a c : Int} {x : Lt} (h : chgHR (fun m => putLR m x) cs a c = (0, R)) : ∃ L, putLR (lotsH cs a c) x = (0, L) ∧ lotsH R a c = L ∧ ∀ a' c', ¬ (a' = a ∧ c' = c) → lotsH R a' c' = lotsH cs a' c' := by
  unfold chgHR at h
  split at h
  · injection h with h1; cases h1
  · rename_i hi
    have hi : isH cs = true := by simpa using hi
    simp only at h
    split at h
    · rename_i hz; injection h with h1; exact absurd h1 hz
    · rename_i hz
      injection h with _ h
      subst h
      have hz : (putLR (lotsH cs a c) x).1 = 0 := Classical.not_not.1 hz
      exact ⟨_, Prod.ext hz rfl, lots_same27 (isH_sorted hi) a c _, fun a' c' hne => lots_else27 (isH_sorted hi) hne _⟩
end Go.Proofs.YtmjndpkfhdoljaaGreat.Hq
namespace Go.Proofs.YtmjndpkfhdoljaaGreat
open Go.ChangeShapes Go.WideShapes Go.ChangeAt Go.RowKit

theorem sum_put27 {f : Lt → Int} {x : Lt} (hx : 0 ≤ f x) : ∀ (l : List Lt), (∀ y ∈ l, ahL y x = false → ahL x y = false → f y ≤ f x) → (l.map f).sum ≤ ((putR ahL l x).map f).sum
  | [], _ => by simp [putR]; exact hx
  | a :: r, h => by
    have ih := sum_put27 hx r (fun y hy => h y (List.mem_cons_of_mem _ hy))
    unfold putR
    cases h1 : ahL a x with
    | true => simp only [if_true, List.map_cons, List.sum_cons]; omega
    | false =>
      cases h2 : ahL x a with
      | true => simp only [if_true, if_false, Bool.false_eq_true, List.map_cons, List.sum_cons]; omega
      | false =>
        have := h a (List.mem_cons_self ..) h1 h2
        simp only [if_false, Bool.false_eq_true, List.map_cons, List.sum_cons]; omega
theorem ahL_no27 {x y : Lt} (h1 : ahL y x = false) (h2 : ahL x y = false) : y.ast = x.ast ∧ y.tag = x.tag := by
  have a : ¬ ltL y x := of_decide_eq_false h1
  have b : ¬ ltL x y := of_decide_eq_false h2
  unfold ltL at a b
  omega
theorem lotV_pos27 {asl : List Ax} {x : Lt} (ho : OkM asl) (hh : hasM asl x.ast = true) (hq : 0 ≤ x.qty) : 0 ≤ lotV true asl x := by
  have hok := findM_ok ho hh
  have e : lotV true asl x = x.qty * (findM asl x.ast).price * (10000 - (findM asl x.ast).hc) / 10000 := if_pos rfl
  rw [e]
  exact (count_rng (z := x.qty * (findM asl x.ast).price) hok (Int.mul_nonneg hq hok.2.2.1.1)).1
theorem lotV_mono27 {asl : List Ax} {x y : Lt} (ho : OkM asl) (hh : hasM asl x.ast = true) (ha : y.ast = x.ast) (hq : y.qty ≤ x.qty) : lotV true asl y ≤ lotV true asl x := by
  have hok := findM_ok ho hh
  have e : lotV true asl x = x.qty * (findM asl x.ast).price * (10000 - (findM asl x.ast).hc) / 10000 := if_pos rfl
  have e2 : lotV true asl y = y.qty * (findM asl x.ast).price * (10000 - (findM asl x.ast).hc) / 10000 := by rw [← ha]; exact if_pos rfl
  rw [e, e2]
  obtain ⟨_, _, h3, h4, h5⟩ := hok
  have h6 : (0 : Int) ≤ 10000 - (findM asl x.ast).hc := by simp only at h4 h5; omega
  exact Int.ediv_le_ediv (by decide) (Int.mul_le_mul_of_nonneg_right (Int.mul_le_mul_of_nonneg_right hq h3.1) h6)
theorem covR_zero27 {b : Bool} {asl : List Ax} {l : List Lt} {c : Int} (h : (covR b asl l c).2 = 0) : isLs l = true ∧ (∀ x ∈ l, lotE asl x = 0) ∧ (covR b asl l c).1 = c + (lotsV b asl l).sum := by
  unfold covR at h ⊢
  by_cases hi : isLs l = false
  · rw [if_pos hi] at h; cases h
  · rw [if_neg hi] at h ⊢
    have hi : isLs l = true := by simpa using hi
    cases hf : l.find? (fun x => lotE asl x != 0) with
    | some x =>
      rw [hf] at h
      have h9 := List.find?_some hf
      simp only at h
      simp [h] at h9
    | none =>
      rw [hf] at h
      rw [List.find?_eq_none] at hf
      simp only at h ⊢
      refine ⟨hi, fun x hx => by have := hf x hx; simpa using this, ?_⟩
      have h64 := fE_in h
      unfold fV
      rw [if_pos h64]
theorem has27 {asl : List Ax} {x : Lt} (h : lotE asl x = 0) : hasM asl x.ast = true := by
  cases hh : hasM asl x.ast with
  | true => rfl
  | false => rw [lotE_none hh] at h; cases h
theorem lots_more27 {asl : List Ax} {m m' : List Lt} {x : Lt} (ho : OkM asl) (h : putLR m x = (0, m')) (hm : ∀ y ∈ m, lotE asl y = 0) (hm' : ∀ y ∈ m', lotE asl y = 0) : (lotsV true asl m).sum ≤ (lotsV true asl m').sum := by
  obtain ⟨h1, h2, h3, h4, rfl⟩ := put_ok h
  obtain ⟨m1, m2, m3⟩ := (isLs_iff m).1 h1
  have hp := okL_pos h2
  have hg := getL_nn h1 x.ast x.tag
  have hmem : (⟨x.ast, x.tag, getL m x.ast x.tag + x.qty⟩ : Lt) ∈ putR ahL m ⟨x.ast, x.tag, getL m x.ast x.tag + x.qty⟩ := by
    have : ∀ (l : List Lt) (z : Lt), z ∈ putR ahL l z := fun l z => by
      induction l with
      | nil => exact List.mem_singleton.2 rfl
      | cons a r ih =>
        unfold putR
        split
        · exact List.mem_cons_of_mem _ ih
        · split
          · exact List.mem_cons_self ..
          · exact List.mem_cons_self ..
    exact this _ _
  have hh := has27 (hm' _ hmem)
  unfold lotsV
  refine sum_put27 (lotV_pos27 ho hh (by simp only; omega)) m (fun y hy e1 e2 => ?_)
  obtain ⟨e3, e4⟩ := ahL_no27 e1 e2
  refine lotV_mono27 ho hh e3 ?_
  have h9 := totL_ge (fun z hz => okL_pos (m1 z hz)) hy
  rw [← getL_tot m3, e3, e4] at h9
  simp only at h9 ⊢
  omega
theorem pay_more27 {l Q : List Fw} {a c m : Int} (h : payR l [⟨a, c, m⟩] = (0, Q)) (hm : 0 ≤ m) (a' c' : Int) : getF l a' c' ≤ getF Q a' c' := by
  unfold payR at h
  split at h
  · injection h with h1; cases h1
  · rename_i hi
    split at h
    · injection h with h1; cases h1
    · injection h with _ h
      subst h
      have hi' : isF l = true := by simpa using hi
      rw [getF_purse (purseOf_sorted _), sumU_purseOf, sumU_append, getF_purse (isF_sorted hi'), sumU_cons]
      have : sumU ([] : List Fw) a' c' = 0 := rfl
      rw [this]
      split
      · simp only; omega
      · omega
theorem val_more27 {asl : List Ax} {fl fl' : List Fw} {hs hs' : List Hc} {ua uc m : Int} {x : Lt} (ho : OkM asl) (hm : 0 ≤ m) (hf : fl' = fl ∨ payR fl [⟨ua, uc, m⟩] = (0, fl')) (hh : hs' = hs ∨ Hq.chgHR (fun q => putLR q x) hs ua uc = (0, hs')) (p : Un) (h0 : (valR asl fl hs p).2 = 0) (h1 : (valR asl fl' hs' p).2 = 0) : (valR asl fl hs p).1 ≤ (valR asl fl' hs' p).1 := by
  unfold valR at h0 h1 ⊢
  obtain ⟨a1, a2, a3⟩ := covR_zero27 h0
  obtain ⟨b1, b2, b3⟩ := covR_zero27 h1
  rw [a3, b3]
  have hc : getF fl p.ac p.cl ≤ getF fl' p.ac p.cl := by
    rcases hf with e | e
    · rw [e]; exact Int.le_refl _
    · exact pay_more27 e hm _ _
  have hl : (lotsV true asl (Hq.lotsH hs p.ac p.cl)).sum ≤ (lotsV true asl (Hq.lotsH hs' p.ac p.cl)).sum := by
    rcases hh with e | e
    · rw [e]; exact Int.le_refl _
    · obtain ⟨L, e1, e2, e3⟩ := Hq.put_lots27 e
      by_cases hp : p.ac = ua ∧ p.cl = uc
      · obtain ⟨p1, p2⟩ := hp
        rw [p1, p2] at a2 b2 ⊢
        rw [e2] at b2 ⊢
        exact lots_more27 ho e1 a2 b2
      · rw [e3 _ _ hp]; exact Int.le_refl _
  omega
theorem exG_zero27 {b1 b2 b3 : Bool} {O : Int × Int} {P : List Un} {V : Un → Int × Int} (h : (exG b1 b2 b3 O P V).2 = 0) : (∀ p ∈ P, (V p).2 = 0) ∧ (exG b1 b2 b3 O P V).1 = -O.1 + (P.map fun p => (V p).1).sum := by
  cases b1 with
  | false => rw [exG_1] at h; cases h
  | true =>
    cases b2 with
    | false => rw [exG_2] at h; cases h
    | true =>
      cases b3 with
      | false => rw [exG_3] at h; cases h
      | true =>
        obtain ⟨m, e⟩ := O
        by_cases he : e = 0
        · subst he
          cases hf : P.find? (fun p => (V p).2 != 0) with
          | some p =>
            exfalso
            unfold exG at h
            simp only [Bool.true_eq_false, if_false, ne_eq, not_true_eq_false] at h
            rw [hf] at h
            have h9 := List.find?_some hf
            simp only at h
            simp [h] at h9
          | none =>
            rw [List.find?_eq_none] at hf
            have hz : ∀ p ∈ P, (V p).2 = 0 := fun p hp => by have := hf p hp; simpa using this
            have e9 := exG_ok (m := m) (P := P) (V := V) (fun j hj => hz _ (List.getElem_mem hj))
            rw [e9] at h ⊢
            refine ⟨hz, ?_⟩
            have h64 := fE_in h
            simp only
            unfold fV
            rw [if_pos h64]
        · rw [exG_must he] at h; exact absurd h he
theorem sum_le27 {P : List Un} {f g : Un → Int} (h : ∀ p ∈ P, f p ≤ g p) : (P.map f).sum ≤ (P.map g).sum := by
  induction P with
  | nil => exact Int.le_refl _
  | cons a r ih =>
    have h1 := h a (List.mem_cons_self ..)
    have h2 := ih (fun p hp => h p (List.mem_cons_of_mem _ hp))
    simp only [List.map_cons, List.sum_cons]
    omega
theorem ex_more27 {asl : List Ax} {is : List Ins} {cs : List Pc} {fl fl' : List Fw} {hs hs' : List Hc} {id kind : Int} {L : List Nt} {u : Un} {ua uc m : Int} {x : Lt} (ho : OkM asl) (hm : 0 ≤ m) (hf : fl' = fl ∨ payR fl [⟨ua, uc, m⟩] = (0, fl')) (hh : hs' = hs ∨ Hq.chgHR (fun q => putLR q x) hs ua uc = (0, hs')) (h0 : (exR asl is cs fl hs id kind L u).2 = 0) (h1 : (exR asl is cs fl' hs' id kind L u).2 = 0) : (exR asl is cs fl hs id kind L u).1 ≤ (exR asl is cs fl' hs' id kind L u).1 := by
  unfold exR at h0 h1 ⊢
  obtain ⟨a1, a2⟩ := exG_zero27 h0
  obtain ⟨b1, b2⟩ := exG_zero27 h1
  rw [a2, b2]
  have := sum_le27 (P := partsL id kind L u) (f := fun p => (valR asl fl hs p).1) (g := fun p => (valR asl fl' hs' p).1) (fun p hp => val_more27 ho hm hf hh p (a1 p hp) (b1 p hp))
  omega
end Go.Proofs.YtmjndpkfhdoljaaGreat
end
