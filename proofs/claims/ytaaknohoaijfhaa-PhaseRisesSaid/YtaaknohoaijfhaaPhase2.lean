/-
  The walks of layer 28, second part: what makes a member's phase rise.
-/
import Derived.Test.YtaaknohoaijfhaaPhase
namespace Go.Proofs.Ytaaknohoaijfhaa
open Go.ChangeShapes Go.WideShapes Go.ChangeAt Go.RowKit
set_option linter.unusedVariables false
set_option linter.unusedSimpArgs false

structure Res where
  i : Int
  c : Int
  p : Int
  u : Int
  e : Int
def resV (r : Res) : Value := .tuple #[.agg #[.int .i64 r.i, .int .i64 r.c, .int .i64 r.p, .int .i64 r.u], .int .i64 r.e]
def failS (i c p u d n : Int) : Res := if May i c p u d then (if 0 ≤ n ∧ n ≤ 16 then (if p = 0 then ⟨i, c, 1, d + n, 0⟩ else ⟨0, 0, 0, 0, 13⟩) else ⟨0, 0, 0, 0, 2⟩) else ⟨0, 0, 0, 0, 2⟩
def sellS (i c p u d : Int) : Res := if May i c p u d then (if p = 1 then (if u < d then ⟨i, c, 2, u, 0⟩ else ⟨0, 0, 0, 0, 18⟩) else ⟨0, 0, 0, 0, 13⟩) else ⟨0, 0, 0, 0, 2⟩
def closeS (i c p u d : Int) : Res := if May i c p u d then (if p = 2 then ⟨i, c, 3, u, 0⟩ else ⟨0, 0, 0, 0, 13⟩) else ⟨0, 0, 0, 0, 2⟩

set_option maxHeartbeats 1000000 in
theorem fail_any (i c p u d n : Int) (w : World) :
    Calls Try.prog 36 #[.agg #[.int .i64 i, .int .i64 c, .int .i64 p, .int .i64 u], .int .i64 d, .int .i64 n] w fun e w' => e = .returned (resV (failS i c p u d n)) ∧ Below w.heap.size w w' := by
  by_cases hm : May i c p u d
  · have hm' := hm
    obtain ⟨⟨_, _, _, _, _, _, _, _⟩, _, _⟩ := hm'
    by_cases h0 : 0 ≤ n ∧ n ≤ 16
    · by_cases h1 : p = 0
      · subst h1
        have hf : failS i c 0 u d n = ⟨i, c, 1, d + n, 0⟩ := by unfold failS; rw [if_pos hm, if_pos h0, if_pos rfl]
        rw [hf]
        clear hf
        go_enter Try.func36, Try.ntmps36
        go_wp2_with fail
        refine (pcheck_yes i c 0 u d _ hm).mono ?_
        rintro e w1 ⟨rfl, hb1⟩
        have hz := hb1.size
        obtain ⟨hc, hfz⟩ := old_cells hb1
        simp only [World.size_alloc] at hz hc hfz
        have hcs := @cell_set
        have hb : Below w.heap.size w w1 := (((Below.refl _ _).alloc (Nat.le_refl _) _).alloc (by simp) _).trans (hb1.mono (by simp; omega))
        clear hb1 hm
        go_wp2
        all_goals
          refine bodyPost_ret (v := resV ⟨i, c, 1, d + n, 0⟩) ?_ rfl ?_
          · simp [results, Try.results36, go_sem, resV, hc, hfz, hz]
          · refine ⟨rfl, ?_⟩
            repeat' (first | with_reducible exact hb | with_reducible apply Below.drew | with_reducible refine Below.setCell ?_ ?_ _)
            all_goals simp
      · have hf : failS i c p u d n = ⟨0, 0, 0, 0, 13⟩ := by unfold failS; rw [if_pos hm, if_pos h0, if_neg h1]
        rw [hf]
        clear hf
        go_enter Try.func36, Try.ntmps36
        go_wp2_with fail
        refine (pcheck_yes i c p u d _ hm).mono ?_
        rintro e w1 ⟨rfl, hb1⟩
        have hz := hb1.size
        obtain ⟨hc, hfz⟩ := old_cells hb1
        simp only [World.size_alloc] at hz hc hfz
        have hcs := @cell_set
        have hb : Below w.heap.size w w1 := (((Below.refl _ _).alloc (Nat.le_refl _) _).alloc (by simp) _).trans (hb1.mono (by simp; omega))
        clear hb1 hm
        go_wp2
        all_goals
          refine bodyPost_ret (v := resV ⟨0, 0, 0, 0, 13⟩) ?_ rfl ?_
          · simp [results, Try.results36, go_sem, resV, hc, hfz, hz]
          · refine ⟨rfl, ?_⟩
            repeat' (first | with_reducible exact hb | with_reducible apply Below.drew | with_reducible refine Below.setCell ?_ ?_ _)
            all_goals simp
    · have hf : failS i c p u d n = ⟨0, 0, 0, 0, 2⟩ := by unfold failS; rw [if_pos hm, if_neg h0]
      rw [hf]
      clear hf
      go_enter Try.func36, Try.ntmps36
      go_wp2_with fail
      refine (pcheck_yes i c p u d _ hm).mono ?_
      rintro e w1 ⟨rfl, hb1⟩
      have hz := hb1.size
      obtain ⟨hc, hfz⟩ := old_cells hb1
      simp only [World.size_alloc] at hz hc hfz
      have hcs := @cell_set
      have hb : Below w.heap.size w w1 := (((Below.refl _ _).alloc (Nat.le_refl _) _).alloc (by simp) _).trans (hb1.mono (by simp; omega))
      clear hb1 hm
      go_wp2
      all_goals
        refine bodyPost_ret (v := resV ⟨0, 0, 0, 0, 2⟩) ?_ rfl ?_
        · simp [results, Try.results36, go_sem, resV, hc, hfz, hz]
        · refine ⟨rfl, ?_⟩
          repeat' (first | with_reducible exact hb | with_reducible apply Below.drew | with_reducible refine Below.setCell ?_ ?_ _)
          all_goals simp
  · have hf : failS i c p u d n = ⟨0, 0, 0, 0, 2⟩ := by unfold failS; rw [if_neg hm]
    rw [hf]
    clear hf
    go_enter Try.func36, Try.ntmps36
    go_wp2_with fail
    refine (pcheck_no i c p u d _ hm).mono ?_
    rintro e w1 ⟨rfl, hb1⟩
    have hz := hb1.size
    obtain ⟨hc, hfz⟩ := old_cells hb1
    simp only [World.size_alloc] at hz hc hfz
    have hcs := @cell_set
    have hb : Below w.heap.size w w1 := (((Below.refl _ _).alloc (Nat.le_refl _) _).alloc (by simp) _).trans (hb1.mono (by simp; omega))
    clear hb1 hm
    go_wp2
    all_goals
      refine bodyPost_ret (v := resV ⟨0, 0, 0, 0, 2⟩) ?_ rfl ?_
      · simp [results, Try.results36, go_sem, resV, hc, hfz, hz]
      · refine ⟨rfl, ?_⟩
        repeat' (first | with_reducible exact hb | with_reducible apply Below.drew | with_reducible refine Below.setCell ?_ ?_ _)
        all_goals simp

set_option maxHeartbeats 1000000 in
theorem refFail_any (i c p u d n : Int) (w : World) :
    Calls Try.prog 37 #[.agg #[.int .i64 i, .int .i64 c, .int .i64 p, .int .i64 u], .int .i64 d, .int .i64 n] w fun e w' => e = .returned (resV (failS i c p u d n)) ∧ Below w.heap.size w w' := by
  by_cases hm : May i c p u d
  · have hm' := hm
    obtain ⟨⟨_, _, _, _, _, _, _, _⟩, _, _⟩ := hm'
    by_cases h0 : 0 ≤ n ∧ n ≤ 16
    · by_cases h1 : p = 0
      · subst h1
        have hf : failS i c 0 u d n = ⟨i, c, 1, d + n, 0⟩ := by unfold failS; rw [if_pos hm, if_pos h0, if_pos rfl]
        rw [hf]
        clear hf
        go_enter Try.func37, Try.ntmps37
        go_wp2_with fail
        refine (refMay_any i c 0 u d _).mono ?_
        rintro e w1 ⟨rfl, hb1⟩
        rw [show mayB i c 0 u d = true from decide_eq_true hm]
        have hz := hb1.size
        obtain ⟨hc, hfz⟩ := old_cells hb1
        simp only [World.size_alloc] at hz hc hfz
        have hcs := @cell_set
        have hb : Below w.heap.size w w1 := (((Below.refl _ _).alloc (Nat.le_refl _) _).alloc (by simp) _).trans (hb1.mono (by simp; omega))
        clear hb1 hm
        go_wp2
        all_goals
          refine bodyPost_ret (v := resV ⟨i, c, 1, d + n, 0⟩) ?_ rfl ?_
          · simp [results, Try.results37, go_sem, resV, hc, hfz, hz]
          · refine ⟨rfl, ?_⟩
            repeat' (first | with_reducible exact hb | with_reducible apply Below.drew | with_reducible refine Below.setCell ?_ ?_ _)
            all_goals simp
      · have hf : failS i c p u d n = ⟨0, 0, 0, 0, 13⟩ := by unfold failS; rw [if_pos hm, if_pos h0, if_neg h1]
        rw [hf]
        clear hf
        go_enter Try.func37, Try.ntmps37
        go_wp2_with fail
        refine (refMay_any i c p u d _).mono ?_
        rintro e w1 ⟨rfl, hb1⟩
        rw [show mayB i c p u d = true from decide_eq_true hm]
        have hz := hb1.size
        obtain ⟨hc, hfz⟩ := old_cells hb1
        simp only [World.size_alloc] at hz hc hfz
        have hcs := @cell_set
        have hb : Below w.heap.size w w1 := (((Below.refl _ _).alloc (Nat.le_refl _) _).alloc (by simp) _).trans (hb1.mono (by simp; omega))
        clear hb1 hm
        go_wp2
        all_goals
          refine bodyPost_ret (v := resV ⟨0, 0, 0, 0, 13⟩) ?_ rfl ?_
          · simp [results, Try.results37, go_sem, resV, hc, hfz, hz]
          · refine ⟨rfl, ?_⟩
            repeat' (first | with_reducible exact hb | with_reducible apply Below.drew | with_reducible refine Below.setCell ?_ ?_ _)
            all_goals simp
    · have hf : failS i c p u d n = ⟨0, 0, 0, 0, 2⟩ := by unfold failS; rw [if_pos hm, if_neg h0]
      rw [hf]
      clear hf
      go_enter Try.func37, Try.ntmps37
      go_wp2_with fail
      refine (refMay_any i c p u d _).mono ?_
      rintro e w1 ⟨rfl, hb1⟩
      rw [show mayB i c p u d = true from decide_eq_true hm]
      have hz := hb1.size
      obtain ⟨hc, hfz⟩ := old_cells hb1
      simp only [World.size_alloc] at hz hc hfz
      have hcs := @cell_set
      have hb : Below w.heap.size w w1 := (((Below.refl _ _).alloc (Nat.le_refl _) _).alloc (by simp) _).trans (hb1.mono (by simp; omega))
      clear hb1 hm
      go_wp2
      all_goals
        refine bodyPost_ret (v := resV ⟨0, 0, 0, 0, 2⟩) ?_ rfl ?_
        · simp [results, Try.results37, go_sem, resV, hc, hfz, hz]
        · refine ⟨rfl, ?_⟩
          repeat' (first | with_reducible exact hb | with_reducible apply Below.drew | with_reducible refine Below.setCell ?_ ?_ _)
          all_goals simp
  · have hf : failS i c p u d n = ⟨0, 0, 0, 0, 2⟩ := by unfold failS; rw [if_neg hm]
    rw [hf]
    clear hf
    go_enter Try.func37, Try.ntmps37
    go_wp2_with fail
    refine (refMay_any i c p u d _).mono ?_
    rintro e w1 ⟨rfl, hb1⟩
    rw [show mayB i c p u d = false from decide_eq_false hm]
    have hz := hb1.size
    obtain ⟨hc, hfz⟩ := old_cells hb1
    simp only [World.size_alloc] at hz hc hfz
    have hcs := @cell_set
    have hb : Below w.heap.size w w1 := (((Below.refl _ _).alloc (Nat.le_refl _) _).alloc (by simp) _).trans (hb1.mono (by simp; omega))
    clear hb1 hm
    go_wp2
    all_goals
      refine bodyPost_ret (v := resV ⟨0, 0, 0, 0, 2⟩) ?_ rfl ?_
      · simp [results, Try.results37, go_sem, resV, hc, hfz, hz]
      · refine ⟨rfl, ?_⟩
        repeat' (first | with_reducible exact hb | with_reducible apply Below.drew | with_reducible refine Below.setCell ?_ ?_ _)
        all_goals simp

set_option maxHeartbeats 1000000 in
theorem sell_any (i c p u d : Int) (w : World) :
    Calls Try.prog 38 #[.agg #[.int .i64 i, .int .i64 c, .int .i64 p, .int .i64 u], .int .i64 d] w fun e w' => e = .returned (resV (sellS i c p u d)) ∧ Below w.heap.size w w' := by
  by_cases hm : May i c p u d
  · have hm' := hm
    obtain ⟨⟨_, _, _, _, _, _, _, _⟩, _, _⟩ := hm'
    by_cases h0 : p = 1
    · subst h0
      by_cases h1 : u < d
      · have hf : sellS i c 1 u d = ⟨i, c, 2, u, 0⟩ := by unfold sellS; rw [if_pos hm, if_pos rfl, if_pos h1]
        rw [hf]
        clear hf
        go_enter Try.func38, Try.ntmps38
        go_wp2_with fail
        refine (pcheck_yes i c 1 u d _ hm).mono ?_
        rintro e w1 ⟨rfl, hb1⟩
        have hz := hb1.size
        obtain ⟨hc, hfz⟩ := old_cells hb1
        simp only [World.size_alloc] at hz hc hfz
        have hcs := @cell_set
        have hb : Below w.heap.size w w1 := (((Below.refl _ _).alloc (Nat.le_refl _) _).alloc (by simp) _).trans (hb1.mono (by simp; omega))
        clear hb1 hm
        go_wp2
        all_goals
          refine bodyPost_ret (v := resV ⟨i, c, 2, u, 0⟩) ?_ rfl ?_
          · simp [results, Try.results38, go_sem, resV, hc, hfz, hz]
          · refine ⟨rfl, ?_⟩
            repeat' (first | with_reducible exact hb | with_reducible apply Below.drew | with_reducible refine Below.setCell ?_ ?_ _)
            all_goals simp
      · have hf : sellS i c 1 u d = ⟨0, 0, 0, 0, 18⟩ := by unfold sellS; rw [if_pos hm, if_pos rfl, if_neg h1]
        rw [hf]
        clear hf
        go_enter Try.func38, Try.ntmps38
        go_wp2_with fail
        refine (pcheck_yes i c 1 u d _ hm).mono ?_
        rintro e w1 ⟨rfl, hb1⟩
        have hz := hb1.size
        obtain ⟨hc, hfz⟩ := old_cells hb1
        simp only [World.size_alloc] at hz hc hfz
        have hcs := @cell_set
        have hb : Below w.heap.size w w1 := (((Below.refl _ _).alloc (Nat.le_refl _) _).alloc (by simp) _).trans (hb1.mono (by simp; omega))
        clear hb1 hm
        go_wp2
        all_goals
          refine bodyPost_ret (v := resV ⟨0, 0, 0, 0, 18⟩) ?_ rfl ?_
          · simp [results, Try.results38, go_sem, resV, hc, hfz, hz]
          · refine ⟨rfl, ?_⟩
            repeat' (first | with_reducible exact hb | with_reducible apply Below.drew | with_reducible refine Below.setCell ?_ ?_ _)
            all_goals simp
    · have hf : sellS i c p u d = ⟨0, 0, 0, 0, 13⟩ := by unfold sellS; rw [if_pos hm, if_neg h0]
      rw [hf]
      clear hf
      go_enter Try.func38, Try.ntmps38
      go_wp2_with fail
      refine (pcheck_yes i c p u d _ hm).mono ?_
      rintro e w1 ⟨rfl, hb1⟩
      have hz := hb1.size
      obtain ⟨hc, hfz⟩ := old_cells hb1
      simp only [World.size_alloc] at hz hc hfz
      have hcs := @cell_set
      have hb : Below w.heap.size w w1 := (((Below.refl _ _).alloc (Nat.le_refl _) _).alloc (by simp) _).trans (hb1.mono (by simp; omega))
      clear hb1 hm
      go_wp2
      all_goals
        refine bodyPost_ret (v := resV ⟨0, 0, 0, 0, 13⟩) ?_ rfl ?_
        · simp [results, Try.results38, go_sem, resV, hc, hfz, hz]
        · refine ⟨rfl, ?_⟩
          repeat' (first | with_reducible exact hb | with_reducible apply Below.drew | with_reducible refine Below.setCell ?_ ?_ _)
          all_goals simp
  · have hf : sellS i c p u d = ⟨0, 0, 0, 0, 2⟩ := by unfold sellS; rw [if_neg hm]
    rw [hf]
    clear hf
    go_enter Try.func38, Try.ntmps38
    go_wp2_with fail
    refine (pcheck_no i c p u d _ hm).mono ?_
    rintro e w1 ⟨rfl, hb1⟩
    have hz := hb1.size
    obtain ⟨hc, hfz⟩ := old_cells hb1
    simp only [World.size_alloc] at hz hc hfz
    have hcs := @cell_set
    have hb : Below w.heap.size w w1 := (((Below.refl _ _).alloc (Nat.le_refl _) _).alloc (by simp) _).trans (hb1.mono (by simp; omega))
    clear hb1 hm
    go_wp2
    all_goals
      refine bodyPost_ret (v := resV ⟨0, 0, 0, 0, 2⟩) ?_ rfl ?_
      · simp [results, Try.results38, go_sem, resV, hc, hfz, hz]
      · refine ⟨rfl, ?_⟩
        repeat' (first | with_reducible exact hb | with_reducible apply Below.drew | with_reducible refine Below.setCell ?_ ?_ _)
        all_goals simp

set_option maxHeartbeats 1000000 in
theorem refSell_any (i c p u d : Int) (w : World) :
    Calls Try.prog 39 #[.agg #[.int .i64 i, .int .i64 c, .int .i64 p, .int .i64 u], .int .i64 d] w fun e w' => e = .returned (resV (sellS i c p u d)) ∧ Below w.heap.size w w' := by
  by_cases hm : May i c p u d
  · have hm' := hm
    obtain ⟨⟨_, _, _, _, _, _, _, _⟩, _, _⟩ := hm'
    by_cases h0 : p = 1
    · subst h0
      by_cases h1 : u < d
      · have hf : sellS i c 1 u d = ⟨i, c, 2, u, 0⟩ := by unfold sellS; rw [if_pos hm, if_pos rfl, if_pos h1]
        rw [hf]
        clear hf
        go_enter Try.func39, Try.ntmps39
        go_wp2_with fail
        refine (refMay_any i c 1 u d _).mono ?_
        rintro e w1 ⟨rfl, hb1⟩
        rw [show mayB i c 1 u d = true from decide_eq_true hm]
        have hz := hb1.size
        obtain ⟨hc, hfz⟩ := old_cells hb1
        simp only [World.size_alloc] at hz hc hfz
        have hcs := @cell_set
        have hb : Below w.heap.size w w1 := (((Below.refl _ _).alloc (Nat.le_refl _) _).alloc (by simp) _).trans (hb1.mono (by simp; omega))
        clear hb1 hm
        go_wp2
        all_goals
          refine bodyPost_ret (v := resV ⟨i, c, 2, u, 0⟩) ?_ rfl ?_
          · simp [results, Try.results39, go_sem, resV, hc, hfz, hz]
          · refine ⟨rfl, ?_⟩
            repeat' (first | with_reducible exact hb | with_reducible apply Below.drew | with_reducible refine Below.setCell ?_ ?_ _)
            all_goals simp
      · have hf : sellS i c 1 u d = ⟨0, 0, 0, 0, 18⟩ := by unfold sellS; rw [if_pos hm, if_pos rfl, if_neg h1]
        rw [hf]
        clear hf
        go_enter Try.func39, Try.ntmps39
        go_wp2_with fail
        refine (refMay_any i c 1 u d _).mono ?_
        rintro e w1 ⟨rfl, hb1⟩
        rw [show mayB i c 1 u d = true from decide_eq_true hm]
        have hz := hb1.size
        obtain ⟨hc, hfz⟩ := old_cells hb1
        simp only [World.size_alloc] at hz hc hfz
        have hcs := @cell_set
        have hb : Below w.heap.size w w1 := (((Below.refl _ _).alloc (Nat.le_refl _) _).alloc (by simp) _).trans (hb1.mono (by simp; omega))
        clear hb1 hm
        go_wp2
        all_goals
          refine bodyPost_ret (v := resV ⟨0, 0, 0, 0, 18⟩) ?_ rfl ?_
          · simp [results, Try.results39, go_sem, resV, hc, hfz, hz]
          · refine ⟨rfl, ?_⟩
            repeat' (first | with_reducible exact hb | with_reducible apply Below.drew | with_reducible refine Below.setCell ?_ ?_ _)
            all_goals simp
    · have hf : sellS i c p u d = ⟨0, 0, 0, 0, 13⟩ := by unfold sellS; rw [if_pos hm, if_neg h0]
      rw [hf]
      clear hf
      go_enter Try.func39, Try.ntmps39
      go_wp2_with fail
      refine (refMay_any i c p u d _).mono ?_
      rintro e w1 ⟨rfl, hb1⟩
      rw [show mayB i c p u d = true from decide_eq_true hm]
      have hz := hb1.size
      obtain ⟨hc, hfz⟩ := old_cells hb1
      simp only [World.size_alloc] at hz hc hfz
      have hcs := @cell_set
      have hb : Below w.heap.size w w1 := (((Below.refl _ _).alloc (Nat.le_refl _) _).alloc (by simp) _).trans (hb1.mono (by simp; omega))
      clear hb1 hm
      go_wp2
      all_goals
        refine bodyPost_ret (v := resV ⟨0, 0, 0, 0, 13⟩) ?_ rfl ?_
        · simp [results, Try.results39, go_sem, resV, hc, hfz, hz]
        · refine ⟨rfl, ?_⟩
          repeat' (first | with_reducible exact hb | with_reducible apply Below.drew | with_reducible refine Below.setCell ?_ ?_ _)
          all_goals simp
  · have hf : sellS i c p u d = ⟨0, 0, 0, 0, 2⟩ := by unfold sellS; rw [if_neg hm]
    rw [hf]
    clear hf
    go_enter Try.func39, Try.ntmps39
    go_wp2_with fail
    refine (refMay_any i c p u d _).mono ?_
    rintro e w1 ⟨rfl, hb1⟩
    rw [show mayB i c p u d = false from decide_eq_false hm]
    have hz := hb1.size
    obtain ⟨hc, hfz⟩ := old_cells hb1
    simp only [World.size_alloc] at hz hc hfz
    have hcs := @cell_set
    have hb : Below w.heap.size w w1 := (((Below.refl _ _).alloc (Nat.le_refl _) _).alloc (by simp) _).trans (hb1.mono (by simp; omega))
    clear hb1 hm
    go_wp2
    all_goals
      refine bodyPost_ret (v := resV ⟨0, 0, 0, 0, 2⟩) ?_ rfl ?_
      · simp [results, Try.results39, go_sem, resV, hc, hfz, hz]
      · refine ⟨rfl, ?_⟩
        repeat' (first | with_reducible exact hb | with_reducible apply Below.drew | with_reducible refine Below.setCell ?_ ?_ _)
        all_goals simp

set_option maxHeartbeats 1000000 in
theorem close_any (i c p u d : Int) (w : World) :
    Calls Try.prog 40 #[.agg #[.int .i64 i, .int .i64 c, .int .i64 p, .int .i64 u], .int .i64 d] w fun e w' => e = .returned (resV (closeS i c p u d)) ∧ Below w.heap.size w w' := by
  by_cases hm : May i c p u d
  · have hm' := hm
    obtain ⟨⟨_, _, _, _, _, _, _, _⟩, _, _⟩ := hm'
    by_cases h0 : p = 2
    · subst h0
      have hf : closeS i c 2 u d = ⟨i, c, 3, u, 0⟩ := by unfold closeS; rw [if_pos hm, if_pos rfl]
      rw [hf]
      clear hf
      go_enter Try.func40, Try.ntmps40
      go_wp2_with fail
      refine (pcheck_yes i c 2 u d _ hm).mono ?_
      rintro e w1 ⟨rfl, hb1⟩
      have hz := hb1.size
      obtain ⟨hc, hfz⟩ := old_cells hb1
      simp only [World.size_alloc] at hz hc hfz
      have hcs := @cell_set
      have hb : Below w.heap.size w w1 := (((Below.refl _ _).alloc (Nat.le_refl _) _).alloc (by simp) _).trans (hb1.mono (by simp; omega))
      clear hb1 hm
      go_wp2
      all_goals
        refine bodyPost_ret (v := resV ⟨i, c, 3, u, 0⟩) ?_ rfl ?_
        · simp [results, Try.results40, go_sem, resV, hc, hfz, hz]
        · refine ⟨rfl, ?_⟩
          repeat' (first | with_reducible exact hb | with_reducible apply Below.drew | with_reducible refine Below.setCell ?_ ?_ _)
          all_goals simp
    · have hf : closeS i c p u d = ⟨0, 0, 0, 0, 13⟩ := by unfold closeS; rw [if_pos hm, if_neg h0]
      rw [hf]
      clear hf
      go_enter Try.func40, Try.ntmps40
      go_wp2_with fail
      refine (pcheck_yes i c p u d _ hm).mono ?_
      rintro e w1 ⟨rfl, hb1⟩
      have hz := hb1.size
      obtain ⟨hc, hfz⟩ := old_cells hb1
      simp only [World.size_alloc] at hz hc hfz
      have hcs := @cell_set
      have hb : Below w.heap.size w w1 := (((Below.refl _ _).alloc (Nat.le_refl _) _).alloc (by simp) _).trans (hb1.mono (by simp; omega))
      clear hb1 hm
      go_wp2
      all_goals
        refine bodyPost_ret (v := resV ⟨0, 0, 0, 0, 13⟩) ?_ rfl ?_
        · simp [results, Try.results40, go_sem, resV, hc, hfz, hz]
        · refine ⟨rfl, ?_⟩
          repeat' (first | with_reducible exact hb | with_reducible apply Below.drew | with_reducible refine Below.setCell ?_ ?_ _)
          all_goals simp
  · have hf : closeS i c p u d = ⟨0, 0, 0, 0, 2⟩ := by unfold closeS; rw [if_neg hm]
    rw [hf]
    clear hf
    go_enter Try.func40, Try.ntmps40
    go_wp2_with fail
    refine (pcheck_no i c p u d _ hm).mono ?_
    rintro e w1 ⟨rfl, hb1⟩
    have hz := hb1.size
    obtain ⟨hc, hfz⟩ := old_cells hb1
    simp only [World.size_alloc] at hz hc hfz
    have hcs := @cell_set
    have hb : Below w.heap.size w w1 := (((Below.refl _ _).alloc (Nat.le_refl _) _).alloc (by simp) _).trans (hb1.mono (by simp; omega))
    clear hb1 hm
    go_wp2
    all_goals
      refine bodyPost_ret (v := resV ⟨0, 0, 0, 0, 2⟩) ?_ rfl ?_
      · simp [results, Try.results40, go_sem, resV, hc, hfz, hz]
      · refine ⟨rfl, ?_⟩
        repeat' (first | with_reducible exact hb | with_reducible apply Below.drew | with_reducible refine Below.setCell ?_ ?_ _)
        all_goals simp

set_option maxHeartbeats 1000000 in
theorem refClose_any (i c p u d : Int) (w : World) :
    Calls Try.prog 41 #[.agg #[.int .i64 i, .int .i64 c, .int .i64 p, .int .i64 u], .int .i64 d] w fun e w' => e = .returned (resV (closeS i c p u d)) ∧ Below w.heap.size w w' := by
  by_cases hm : May i c p u d
  · have hm' := hm
    obtain ⟨⟨_, _, _, _, _, _, _, _⟩, _, _⟩ := hm'
    by_cases h0 : p = 2
    · subst h0
      have hf : closeS i c 2 u d = ⟨i, c, 3, u, 0⟩ := by unfold closeS; rw [if_pos hm, if_pos rfl]
      rw [hf]
      clear hf
      go_enter Try.func41, Try.ntmps41
      go_wp2_with fail
      refine (refMay_any i c 2 u d _).mono ?_
      rintro e w1 ⟨rfl, hb1⟩
      rw [show mayB i c 2 u d = true from decide_eq_true hm]
      have hz := hb1.size
      obtain ⟨hc, hfz⟩ := old_cells hb1
      simp only [World.size_alloc] at hz hc hfz
      have hcs := @cell_set
      have hb : Below w.heap.size w w1 := (((Below.refl _ _).alloc (Nat.le_refl _) _).alloc (by simp) _).trans (hb1.mono (by simp; omega))
      clear hb1 hm
      go_wp2
      all_goals
        refine bodyPost_ret (v := resV ⟨i, c, 3, u, 0⟩) ?_ rfl ?_
        · simp [results, Try.results41, go_sem, resV, hc, hfz, hz]
        · refine ⟨rfl, ?_⟩
          repeat' (first | with_reducible exact hb | with_reducible apply Below.drew | with_reducible refine Below.setCell ?_ ?_ _)
          all_goals simp
    · have hf : closeS i c p u d = ⟨0, 0, 0, 0, 13⟩ := by unfold closeS; rw [if_pos hm, if_neg h0]
      rw [hf]
      clear hf
      go_enter Try.func41, Try.ntmps41
      go_wp2_with fail
      refine (refMay_any i c p u d _).mono ?_
      rintro e w1 ⟨rfl, hb1⟩
      rw [show mayB i c p u d = true from decide_eq_true hm]
      have hz := hb1.size
      obtain ⟨hc, hfz⟩ := old_cells hb1
      simp only [World.size_alloc] at hz hc hfz
      have hcs := @cell_set
      have hb : Below w.heap.size w w1 := (((Below.refl _ _).alloc (Nat.le_refl _) _).alloc (by simp) _).trans (hb1.mono (by simp; omega))
      clear hb1 hm
      go_wp2
      all_goals
        refine bodyPost_ret (v := resV ⟨0, 0, 0, 0, 13⟩) ?_ rfl ?_
        · simp [results, Try.results41, go_sem, resV, hc, hfz, hz]
        · refine ⟨rfl, ?_⟩
          repeat' (first | with_reducible exact hb | with_reducible apply Below.drew | with_reducible refine Below.setCell ?_ ?_ _)
          all_goals simp
  · have hf : closeS i c p u d = ⟨0, 0, 0, 0, 2⟩ := by unfold closeS; rw [if_neg hm]
    rw [hf]
    clear hf
    go_enter Try.func41, Try.ntmps41
    go_wp2_with fail
    refine (refMay_any i c p u d _).mono ?_
    rintro e w1 ⟨rfl, hb1⟩
    rw [show mayB i c p u d = false from decide_eq_false hm]
    have hz := hb1.size
    obtain ⟨hc, hfz⟩ := old_cells hb1
    simp only [World.size_alloc] at hz hc hfz
    have hcs := @cell_set
    have hb : Below w.heap.size w w1 := (((Below.refl _ _).alloc (Nat.le_refl _) _).alloc (by simp) _).trans (hb1.mono (by simp; omega))
    clear hb1 hm
    go_wp2
    all_goals
      refine bodyPost_ret (v := resV ⟨0, 0, 0, 0, 2⟩) ?_ rfl ?_
      · simp [results, Try.results41, go_sem, resV, hc, hfz, hz]
      · refine ⟨rfl, ?_⟩
        repeat' (first | with_reducible exact hb | with_reducible apply Below.drew | with_reducible refine Below.setCell ?_ ?_ _)
        all_goals simp

end Go.Proofs.Ytaaknohoaijfhaa
