/-
  The walks of layer 23, third part: Turn, New.
-/
import Derived.Test.YtaaknohoaijfhaaGive2
namespace Go.Proofs.Ytaaknohoaijfhaa
open Go.ChangeShapes Go.WideShapes Go.ChangeAt Go.RowKit
set_option linter.unusedVariables false
set_option linter.unusedSimpArgs false

theorem gAt_cases (l : List Gv) (id : Int) : (gAt l id = -1 ∧ ∀ j, (hj : j < l.length) → (l[j].id == id) = false) ∨
    ∃ k : Nat, ∃ hk : k < l.length, gAt l id = k ∧ (l[k].id == id) = true ∧ ∀ j, (hj : j < k) → (l[j].id == id) = false := by
  rcases h : l.findIdx? (fun g => g.id == id) with _ | k
  · left
    have e : gAt l id = -1 := by unfold gAt; rw [h]
    rw [List.findIdx?_eq_none_iff] at h
    exact ⟨e, fun j hj => h _ (List.getElem_mem hj)⟩
  · right
    have e : gAt l id = k := by unfold gAt; rw [h]
    rw [List.findIdx?_eq_some_iff_getElem] at h
    obtain ⟨hk, h1, h2⟩ := h
    exact ⟨k, hk, e, h1, fun j hj => by simpa using h2 j hj⟩

/-- what Turn answers: an error, or a row -/
def turnE (l : List Gv) (id st : Int) : Int := if gAt l id = -1 then 11 else if st < 2 ∨ 5 < st then 2 else if (l.getD (gAt l id).toNat ⟨0, 0, 0, 0, 0, 0, 0, 0, 0, 0, 0⟩).st ≠ 1 then 13 else 0
def turnL (l : List Gv) (id st : Int) : List Gv := l.set (gAt l id).toNat { l.getD (gAt l id).toNat ⟨0, 0, 0, 0, 0, 0, 0, 0, 0, 0, 0⟩ with st := st }

def rowE (w' : World) (e : Ending) (er : Int) (n : Nat) (l : List Gv) : Prop :=
  (er ≠ 0 ∧ e = .returned (.tuple #[.slice none 0 0, .int .i64 er])) ∨ (er = 0 ∧ ∃ A' c', e = .returned (.tuple #[.slice A' n c', .int .i64 0]) ∧ (n ≤ c' ∧ c' ≤ maxLen) ∧ Sl w' A' (gcells l))

set_option maxHeartbeats 1000000 in
theorem turn_any (A : Option Addr) (cap : Nat) (l : List Gv) (id st : Int) (w : World) (hl : l.length ≤ 1000000) (hs : Sl w A (gcells l)) :
    Calls Try.prog 26 #[.slice A l.length cap, .int .i64 id, .int .i64 st] w fun e w' => rowE w' e (turnE l id st) l.length (turnL l id st) ∧ Below w.heap.size w w' := by
  rcases gAt_cases l id with ⟨h0, hno⟩ | ⟨k, hk, h0, hid, hno⟩
  · have H0 := Lib.hid h0
    rw [show turnE l id st = 11 from if_pos h0]
    clear h0
    go_enter Try.func26, Try.ntmps26
    go_wp2_with fail
    refine (place_any A cap l id _ hl hs).mono ?_
    rintro e w1 ⟨rfl, hb1⟩
    rw [H0.out]
    go_wp2_with fail
    go_ret2
    exact ⟨.inl ⟨by decide, rfl⟩, hb1⟩
  · have H0 := Lib.hid h0
    have hget : l.getD (gAt l id).toNat ⟨0, 0, 0, 0, 0, 0, 0, 0, 0, 0, 0⟩ = l[k] := by rw [h0]; simp [List.getD, hk]
    by_cases hst : st < 2 ∨ 5 < st
    · rw [show turnE l id st = 2 from by unfold turnE; rw [if_neg (by omega), if_pos hst]]
      clear h0 hget
      go_enter Try.func26, Try.ntmps26
      go_wp2_with fail
      refine (place_any A cap l id _ hl hs).mono ?_
      rintro e w1 ⟨rfl, hb1⟩
      rw [H0.out]
      rcases hst with hst | hst
      · go_wp2_with fail
        go_ret2
        exact ⟨.inl ⟨by decide, rfl⟩, hb1⟩
      · go_wp2_with fail
        go_ret2
        exact ⟨.inl ⟨by decide, rfl⟩, hb1⟩
    · by_cases hs1 : l[k].st = 1
      · rw [show turnE l id st = 0 from by unfold turnE; rw [if_neg (by omega), if_neg hst, hget, if_neg (by omega)], show turnL l id st = l.set k { l[k] with st := st } from by unfold turnL; rw [hget, h0]; rfl]
        clear h0 hget
        go_enter Try.func26, Try.ntmps26
        go_wp2_with fail
        refine (place_any A cap l id _ hl hs).mono ?_
        rintro e w1 ⟨rfl, hb1⟩
        rw [H0.out]
        have hs2 := hs.below hb1
        obtain ⟨b, o, rfl, hbw, hg⟩ := hs2.give hk
        obtain ⟨g0, g1, g2, g3, g4, g5, g6, g7, g8, g9, g10⟩ := _root_.id hg
        have hcs := @cell_set
        go_wp2_with fail
        refine (set_any _ cap l k { l[k] with st := st } _ hl hk (hs2.alloc _)).mono ?_
        rintro e w2 ⟨⟨A2, c2, rfl, hcap, hs3⟩, hb2⟩
        have HC := Lib.hid hcap
        clear hcap
        have hB2 := since_step (since_alloc hb1 _) hb2
        go_wp2_with fail
        go_ret2
        exact ⟨.inr ⟨rfl, A2, c2, rfl, HC.out, hs3⟩, hB2⟩
      · rw [show turnE l id st = 13 from by unfold turnE; rw [if_neg (by omega), if_neg hst, hget, if_pos hs1]]
        clear h0 hget
        go_enter Try.func26, Try.ntmps26
        go_wp2_with fail
        refine (place_any A cap l id _ hl hs).mono ?_
        rintro e w1 ⟨rfl, hb1⟩
        rw [H0.out]
        have hs2 := hs.below hb1
        obtain ⟨b, o, rfl, hbw, hg⟩ := hs2.give hk
        obtain ⟨g0, g1, g2, g3, g4, g5, g6, g7, g8, g9, g10⟩ := _root_.id hg
        go_wp2_with fail
        go_ret2
        exact ⟨.inl ⟨by decide, rfl⟩, since_alloc hb1 _⟩

/-- what New answers: an error, or a row -/
def newE (l : List Gv) (g : Gv) (day : Int) : Int := if g.fa = g.ta ∧ g.fc = g.tc then 24 else if g.qty = 0 ∨ day < 0 ∨ 1048576 < day then 2 else if 64 ≤ l.length then 25 else 0
def newG (l : List Gv) (g : Gv) (day : Int) : Gv := { g with id := l.length + 1, st := 1, day := day + 8 }
def Ids (l : List Gv) : Prop := ∀ k, (h : k < l.length) → l[k].id = k + 1
def newR (w' : World) (e : Ending) (l : List Gv) (g : Gv) (day : Int) : Prop :=
  (newE l g day ≠ 0 ∧ e = .returned (.tuple #[.slice none 0 0, .int .i64 0, .int .i64 (newE l g day)])) ∨
  (newE l g day = 0 ∧ ∃ A' c', e = .returned (.tuple #[.slice A' (l.length + 1) c', .int .i64 (l.length + 1), .int .i64 0]) ∧ (l.length + 1 ≤ c' ∧ c' ≤ maxLen) ∧ Sl w' A' (gcells (l ++ [newG l g day])))

set_option maxHeartbeats 1000000 in
theorem new_bad (A : Option Addr) (cap : Nat) (l : List Gv) (g : Gv) (day : Int) (w : World) (hl : l.length ≤ 1000000) (hs : Sl w A (gcells l)) (h : newE l g day ≠ 0) :
    Calls Try.prog 23 #[.slice A l.length cap, g.val, .int .i64 day] w fun e w' => newR w' e l g day ∧ Below w.heap.size w w' := by
  have hB : ∀ cs, Below w.heap.size w (w.alloc (.cells cs 43)) := fun cs => since_alloc (Below.refl _ _) _
  by_cases h1 : g.fa = g.ta ∧ g.fc = g.tc
  · have hE : newE l g day = 24 := if_pos h1
    obtain ⟨h1, h2⟩ := h1
    unfold Gv.val
    rw [h1, h2]
    go_enter Try.func23, Try.ntmps23
    go_wp2_with fail
    all_goals
      go_ret3
      refine ⟨.inl ⟨h, ?_⟩, hB _⟩
      rw [hE]
      rfl
  · by_cases h2 : g.qty = 0 ∨ day < 0 ∨ 1048576 < day
    · have hE : newE l g day = 2 := by unfold newE; rw [if_neg h1, if_pos h2]
      unfold Gv.val
      go_enter Try.func23, Try.ntmps23
      go_wp2_with fail
      all_goals
        go_ret3
        refine ⟨.inl ⟨h, ?_⟩, hB _⟩
        rw [hE]
        rfl
    · have h3 : 64 ≤ l.length := by
        refine Decidable.byContradiction fun h3 => h ?_
        unfold newE; rw [if_neg h1, if_neg h2, if_neg h3]
      have hE : newE l g day = 25 := by unfold newE; rw [if_neg h1, if_neg h2, if_pos h3]
      have hq : (g.qty == 0) = false := by simp; omega
      have hd1 : decide (day < 0) = false := by simp; omega
      have hd2 : decide (1048576 < day) = false := by simp; omega
      unfold Gv.val
      go_enter Try.func23, Try.ntmps23
      go_wp2_with fail
      all_goals
        go_ret3
        refine ⟨.inl ⟨h, ?_⟩, hB _⟩
        rw [hE]
        rfl


end Go.Proofs.Ytaaknohoaijfhaa
