/-
  The walks of layer 23, fourteenth part: the document's Of, New, Turn.
-/
import Derived.Test.YtaaknohoaijfhaaGive13
import Derived.Deep.RegionLaw
import Derived.Deep.AppendLies
namespace Go.Proofs.Ytaaknohoaijfhaa
open Go.ChangeShapes Go.WideShapes Go.ChangeAt Go.RowKit
set_option linter.unusedVariables false
set_option linter.unusedSimpArgs false

set_option maxHeartbeats 4000000 in
theorem rof_any (A : Option Addr) (cap : Nat) (l : List Gv) (ua uc : Int) (w : World) (hl : l.length ≤ 1000) (hs : Sl w A (gcells l)) :
    Calls Try.prog 34 #[.slice A l.length cap, .agg #[.int .i64 ua, .int .i64 uc]] w fun e w' => (∃ A' c', e = .returned (.slice A' (ofL l ua uc).length c') ∧ Sl w' A' (ints .i64 (ofL l ua uc))) ∧ Below w.heap.size w w' := by
  go_enter Try.func34, Try.ntmps34
  go_wp2
  go_loopw [5, 6] (fun v i wr => ∃ k : Nat, k ≤ l.length ∧ i = .int .i64 k ∧ (∃ A' c', v = .slice A' (ofL (l.take k) ua uc).length c' ∧ wr.ownsRow (w.heap.size + 1) 3 1 (.slice A' (ofL (l.take k) ua uc).length c') (ofL (l.take k) ua uc).length (ints .i64 (ofL (l.take k) ua uc))) ∧ Below w.heap.size w wr ∧ w.heap.size < wr.heap.size ∧ wr.cell? ⟨w.heap.size, 0, none⟩ = some (.int .i64 ua) ∧ wr.cell? ⟨w.heap.size, 1, none⟩ = some (.int .i64 uc)) (fun _ i _ => l.length - (intOf i).toNat)
  case atStart => exact ⟨0, by omega, rfl, ⟨none, 0, rfl, own_nil _ _ _⟩, since_alloc (Below.refl _ _) _, by simp, by simp, by simp⟩
  case round =>
    obtain ⟨k, hk, rfl, ⟨A', c', rfl, hown⟩, hB, hsz, hu0, hu1⟩ := hrel
    by_cases hlt2 : k < l.length
    · obtain ⟨b, o, rfl, hbw, hg⟩ := hs.give hlt2
      have hg1 := hg.keep (w' := wr) fun i => hB.cell (p := ⟨b, i, none⟩) hbw
      obtain ⟨g0, g1, g2, g3, g4, g5, g6, g7, g8, g9, g10⟩ := hg1
      have hbr : b < wr.heap.size := Nat.lt_of_lt_of_le hbw hB.size
      have HT := Lib.hid (ofL_take l ua uc k hlt2)
      have hq1000 : (ofL (l.take k) ua uc).length ≤ 1000 := Nat.le_trans (ofL_length (l.take k) ua uc) (by simp; omega)
      have ew : IntKind.i64.wrap ((k : Int) + 1) = (k : Int) + 1 := IntWalk.i64_in _ (by omega)
      generalize l[k] = g at *
      generalize ofL (l.take k) ua uc = q at *
      cases hq1 : (g.st == 1) with
      | false =>
        have HQ := Lib.hid (show (g.st == 1 && ofB ua uc g) = false by rw [hq1]; rfl)
        go_wp2
        go_quiet (fail)
        go_wp2
        go_roundw
        case rel =>
          refine ⟨k + 1, by omega, by go_num, ?_, below_drewN hB _, by simpa using hsz, hu0, hu1⟩
          rw [HT.out, HQ.out]
          simp only [Bool.false_eq_true, if_false, List.append_nil]
          exact ⟨A', c', rfl, hown⟩
        case measure => simp [intOf]; omega
      | true =>
        cases hq2 : ofB ua uc g with
        | false =>
          have HQ := Lib.hid (show (g.st == 1 && ofB ua uc g) = false by rw [hq2]; simp)
          cases h1 : (g.fa == ua) <;> cases h2 : (g.fc == uc) <;> cases h3 : (g.ta == ua) <;> cases h4 : (g.tc == uc)
          all_goals first | (exfalso; simp [ofB, h1, h2, h3, h4] at hq2; done) | skip
          all_goals
            clear hq2
            go_wp2
            go_quiet (fail)
            go_wp2
            go_roundw
            case rel =>
              refine ⟨k + 1, by omega, by go_num, ?_, below_drewN hB _, by simpa using hsz, hu0, hu1⟩
              rw [HT.out, HQ.out]
              simp only [Bool.false_eq_true, if_false, List.append_nil]
              exact ⟨A', c', rfl, hown⟩
            case measure => simp [intOf]; omega
        | true =>
          have HQ := Lib.hid (show (g.st == 1 && ofB ua uc g) = true by rw [hq2, hq1]; rfl)
          cases h1 : (g.fa == ua) <;> cases h2 : (g.fc == uc) <;> cases h3 : (g.ta == ua) <;> cases h4 : (g.tc == uc)
          all_goals first | (exfalso; simp [ofB, h1, h2, h3, h4] at hq2; done) | skip
          all_goals
            clear hq2
            go_wp2
            go_quiet (fail)
            have hown1 : (wr.drewN nq).ownsRow (w.heap.size + 1) 3 1 (.slice A' q.length c') q.length (ints .i64 q) := hown
            go_wp2_with (first
              | (at_builtin; refine wpList_app rfl (.tmp 37) (.tmp 43) rfl EI rfl rfl (hown1.alloc _) (m := 1) (news := ints .i64 [g.id]) rfl (Sl.new_ _ _ _) (ints_one _ _) (by unfold maxLen; omega) (by omega) (by simp; omega) ?_; intro A2 c2 w2 hown2 hg2 hb2)
              | fail)
            go_roundw
            case rel =>
              refine ⟨k + 1, by omega, by go_num, ?_, (since_alloc (below_drewN hB nq) _).trans (hb2.mono (Nat.le_succ _)), ?_, ?_, ?_⟩
              · rw [HT.out, HQ.out]
                simp only [if_true, List.length_append, List.length_singleton]
                exact ⟨A2, c2, rfl, by simpa [ints] using hown2⟩
              · have := hb2.size; simp at this; omega
              · rw [hb2.cell (p := ⟨w.heap.size, 0, none⟩) (Nat.lt_succ_self _)]
                exact (World.cell?_alloc_lt (wr.drewN nq) _ ⟨w.heap.size, 0, none⟩ hsz).trans hu0
              · rw [hb2.cell (p := ⟨w.heap.size, 1, none⟩) (Nat.lt_succ_self _)]
                exact (World.cell?_alloc_lt (wr.drewN nq) _ ⟨w.heap.size, 1, none⟩ hsz).trans hu1
            case measure => simp [intOf]; omega
    · have hkl : k = l.length := by omega
      subst hkl
      rw [List.take_length] at hown ⊢
      go_wp2
      go_ret
      exact ⟨⟨A', c', rfl, Sl.of_own hown⟩, hB⟩

set_option maxHeartbeats 1000000 in
theorem rnew_bad (A : Option Addr) (cap : Nat) (l : List Gv) (g : Gv) (day : Int) (w : World) (hl : l.length ≤ 1000000) (hs : Sl w A (gcells l)) (h : newE l g day ≠ 0) :
    Calls Try.prog 24 #[.slice A l.length cap, g.val, .int .i64 day] w fun e w' => newR w' e l g day ∧ Below w.heap.size w w' := by
  have hB : ∀ cs, Below w.heap.size w (w.alloc (.cells cs 43)) := fun cs => since_alloc (Below.refl _ _) _
  by_cases h1 : g.fa = g.ta ∧ g.fc = g.tc
  · have hE : newE l g day = 24 := if_pos h1
    obtain ⟨h1, h2⟩ := h1
    unfold Gv.val
    rw [h1, h2]
    go_enter Try.func24, Try.ntmps24
    go_wp2_with fail
    all_goals
      go_ret3
      refine ⟨.inl ⟨h, ?_⟩, hB _⟩
      rw [hE]
      rfl
  · by_cases h2 : g.qty = 0 ∨ day < 0 ∨ 1048576 < day
    · have hE : newE l g day = 2 := by unfold newE; rw [if_neg h1, if_pos h2]
      unfold Gv.val
      go_enter Try.func24, Try.ntmps24
      go_wp2_with fail
      all_goals
        go_ret3
        refine ⟨.inl ⟨h, ?_⟩, hB _⟩
        rw [hE]
        rfl
    · have h3 : 64 ≤ l.length := by
        refine Decidable.byContradiction fun h3 => h ?_
        unfold newE; rw [if_neg h1, if_neg h2, if_neg h3]
      have hE : newE l g day = 25 := by unfold newE; rw [if_neg h1, if_neg h2, if_pos h3]
      have hq : (g.qty == 0) = false := by simp; omega
      have hd1 : decide (day < 0) = false := by simp; omega
      have hd2 : decide (1048576 < day) = false := by simp; omega
      unfold Gv.val
      go_enter Try.func24, Try.ntmps24
      go_wp2_with fail
      all_goals
        go_ret3
        refine ⟨.inl ⟨h, ?_⟩, hB _⟩
        rw [hE]
        rfl

set_option maxHeartbeats 4000000 in
theorem rnew_first (g : Gv) (day : Int) (w : World) (h : newE [] g day = 0) :
    Calls Try.prog 24 #[.slice none 0 0, g.val, .int .i64 day] w fun e w' => newR w' e [] g day ∧ Below w.heap.size w w' := by
  have h1 : ¬ (g.fa = g.ta ∧ g.fc = g.tc) := fun h1 => by unfold newE at h; rw [if_pos h1] at h; omega
  have h2 : ¬ (g.qty = 0 ∨ day < 0 ∨ 1048576 < day) := fun h2 => by unfold newE at h; rw [if_neg h1, if_pos h2] at h; omega
  obtain ⟨gid, fa, fc, ta, tc, inst, qty, price, grp, gday, st⟩ := g
  simp only at h1 h2
  have hcs := @cell_set
  have hq : (qty == 0) = false := by simp; omega
  have hd1 : decide (day < 0) = false := by simp; omega
  have hd2 : decide (1048576 < day) = false := by simp; omega
  have hd : 0 ≤ day ∧ day ≤ 1048576 := by omega
  have H := Lib.hid h
  clear h h2
  obtain ⟨i, z, hi, hz1, hsize, hby, hzs⟩ := EG.info
  unfold Gv.val
  by_cases hf : fa = ta
  · subst hf
    have hf2 : (fc == tc) = false := by simp; intro e; exact h1 ⟨rfl, e⟩
    clear h1
    go_enter Try.func24, Try.ntmps24
    go_wp2_with (first
      | (at_builtin; refine wpList_app rfl (.tmp 47) (.tmp 48) rfl EG (base := w.heap.size + 1) (m := 0) (news := []) rfl rfl (own_nil _ _ _) rfl Sl.nil (by intro u hu; cases hu) (by decide) (by decide) (by simp) ?_; intro A2 c2 w2 hown2 hg2 hb2)
      | fail)
    have q0 : w2.cell? ⟨w.heap.size, 0, none⟩ = some (.int .i64 1) := (hb2.cell (p := ⟨w.heap.size, 0, none⟩) (Nat.lt_succ_self _)).trans (by simp)
    have q1 : w2.cell? ⟨w.heap.size, 1, none⟩ = some (.int .i64 fa) := (hb2.cell (p := ⟨w.heap.size, 1, none⟩) (Nat.lt_succ_self _)).trans (by simp)
    have q2 : w2.cell? ⟨w.heap.size, 2, none⟩ = some (.int .i64 fc) := (hb2.cell (p := ⟨w.heap.size, 2, none⟩) (Nat.lt_succ_self _)).trans (by simp)
    have q3 : w2.cell? ⟨w.heap.size, 3, none⟩ = some (.int .i64 fa) := (hb2.cell (p := ⟨w.heap.size, 3, none⟩) (Nat.lt_succ_self _)).trans (by simp)
    have q4 : w2.cell? ⟨w.heap.size, 4, none⟩ = some (.int .i64 tc) := (hb2.cell (p := ⟨w.heap.size, 4, none⟩) (Nat.lt_succ_self _)).trans (by simp)
    have q5 : w2.cell? ⟨w.heap.size, 5, none⟩ = some (.int .i64 inst) := (hb2.cell (p := ⟨w.heap.size, 5, none⟩) (Nat.lt_succ_self _)).trans (by simp)
    have q6 : w2.cell? ⟨w.heap.size, 6, none⟩ = some (.int .i64 qty) := (hb2.cell (p := ⟨w.heap.size, 6, none⟩) (Nat.lt_succ_self _)).trans (by simp)
    have q7 : w2.cell? ⟨w.heap.size, 7, none⟩ = some (.int .i64 price) := (hb2.cell (p := ⟨w.heap.size, 7, none⟩) (Nat.lt_succ_self _)).trans (by simp)
    have q8 : w2.cell? ⟨w.heap.size, 8, none⟩ = some (.int .i64 grp) := (hb2.cell (p := ⟨w.heap.size, 8, none⟩) (Nat.lt_succ_self _)).trans (by simp)
    have q9 : w2.cell? ⟨w.heap.size, 9, none⟩ = some (.int .i64 (day + 8)) := (hb2.cell (p := ⟨w.heap.size, 9, none⟩) (Nat.lt_succ_self _)).trans (by simp)
    have q10 : w2.cell? ⟨w.heap.size, 10, none⟩ = some (.int .i64 1) := (hb2.cell (p := ⟨w.heap.size, 10, none⟩) (Nat.lt_succ_self _)).trans (by simp)
    have hown3 : w2.ownsRow (w.heap.size + 1) 43 11 (.slice A2 0 c2) 0 [] := by simpa using hown2
    have hzlt : w.heap.size < w2.heap.size := by have := hb2.size; simp at this; omega
    have hBW : Below w.heap.size w w2 := (since_alloc (Below.refl _ _) _).trans (hb2.mono (Nat.le_succ _))
    have HOWN := Lib.hid hown3
    clear hg2 hb2 hown2 hown3
    go_region_law (refine step_append_lies _ rfl (.tmp 50) (.tmp 52) 39 rfl (w.heap.size + 1) 43 i z 11 88 EG.und hi hz1 hsize hby hzs (by decide) (.slice A2 0 c2) 0 [] (by simp [Act.eval, Act.put]) (HOWN.out.alloc _) ⟨w2.heap.size, 0, none⟩ 1 1 [.int .i64 1, .int .i64 fa, .int .i64 fc, .int .i64 fa, .int .i64 tc, .int .i64 inst, .int .i64 qty, .int .i64 price, .int .i64 grp, .int .i64 (day + 8), .int .i64 1] (by simp [Act.eval, Act.put]) rfl ((Sl.new_ _ _ _).drew.row rfl) (gcells_one [⟨1, fa, fc, fa, tc, inst, qty, price, grp, day + 8, 1⟩]) (by decide) (by unfold maxLen; omega) (by omega) (by simp; omega) _ rfl ?_; intro g2 cap2 w3 hown4 hgr hat hltg; have hb3 := below_of_grown hgr (by simp; omega) (own_ge HOWN.out); have s0 : w3.cell? ⟨w.heap.size, 0, none⟩ = some (.int .i64 1) := (hb3.cell (p := ⟨w.heap.size, 0, none⟩) (Nat.lt_succ_self _)).trans ((World.cell?_alloc_lt w2 _ ⟨w.heap.size, 0, none⟩ hzlt).trans q0); have hBW3 := (since_alloc hBW _).drew.trans (hb3.mono (Nat.le_succ _)); clear hb3 hgr hat)
    all_goals
      go_wp2
      go_ret3
      refine ⟨.inr ⟨H.out, some ⟨g2, 0, none⟩, cap2, rfl, own_cap hown4, ?_⟩, hBW3⟩
      simpa [gcells, newG, Gv.cells] using Sl.of_own hown4
  · have hf2 : (fa == ta) = false := by simpa using hf
    clear h1
    go_enter Try.func24, Try.ntmps24
    go_wp2_with (first
      | (at_builtin; refine wpList_app rfl (.tmp 47) (.tmp 48) rfl EG (base := w.heap.size + 1) (m := 0) (news := []) rfl rfl (own_nil _ _ _) rfl Sl.nil (by intro u hu; cases hu) (by decide) (by decide) (by simp) ?_; intro A2 c2 w2 hown2 hg2 hb2)
      | fail)
    have q0 : w2.cell? ⟨w.heap.size, 0, none⟩ = some (.int .i64 1) := (hb2.cell (p := ⟨w.heap.size, 0, none⟩) (Nat.lt_succ_self _)).trans (by simp)
    have q1 : w2.cell? ⟨w.heap.size, 1, none⟩ = some (.int .i64 fa) := (hb2.cell (p := ⟨w.heap.size, 1, none⟩) (Nat.lt_succ_self _)).trans (by simp)
    have q2 : w2.cell? ⟨w.heap.size, 2, none⟩ = some (.int .i64 fc) := (hb2.cell (p := ⟨w.heap.size, 2, none⟩) (Nat.lt_succ_self _)).trans (by simp)
    have q3 : w2.cell? ⟨w.heap.size, 3, none⟩ = some (.int .i64 ta) := (hb2.cell (p := ⟨w.heap.size, 3, none⟩) (Nat.lt_succ_self _)).trans (by simp)
    have q4 : w2.cell? ⟨w.heap.size, 4, none⟩ = some (.int .i64 tc) := (hb2.cell (p := ⟨w.heap.size, 4, none⟩) (Nat.lt_succ_self _)).trans (by simp)
    have q5 : w2.cell? ⟨w.heap.size, 5, none⟩ = some (.int .i64 inst) := (hb2.cell (p := ⟨w.heap.size, 5, none⟩) (Nat.lt_succ_self _)).trans (by simp)
    have q6 : w2.cell? ⟨w.heap.size, 6, none⟩ = some (.int .i64 qty) := (hb2.cell (p := ⟨w.heap.size, 6, none⟩) (Nat.lt_succ_self _)).trans (by simp)
    have q7 : w2.cell? ⟨w.heap.size, 7, none⟩ = some (.int .i64 price) := (hb2.cell (p := ⟨w.heap.size, 7, none⟩) (Nat.lt_succ_self _)).trans (by simp)
    have q8 : w2.cell? ⟨w.heap.size, 8, none⟩ = some (.int .i64 grp) := (hb2.cell (p := ⟨w.heap.size, 8, none⟩) (Nat.lt_succ_self _)).trans (by simp)
    have q9 : w2.cell? ⟨w.heap.size, 9, none⟩ = some (.int .i64 (day + 8)) := (hb2.cell (p := ⟨w.heap.size, 9, none⟩) (Nat.lt_succ_self _)).trans (by simp)
    have q10 : w2.cell? ⟨w.heap.size, 10, none⟩ = some (.int .i64 1) := (hb2.cell (p := ⟨w.heap.size, 10, none⟩) (Nat.lt_succ_self _)).trans (by simp)
    have hown3 : w2.ownsRow (w.heap.size + 1) 43 11 (.slice A2 0 c2) 0 [] := by simpa using hown2
    have hzlt : w.heap.size < w2.heap.size := by have := hb2.size; simp at this; omega
    have hBW : Below w.heap.size w w2 := (since_alloc (Below.refl _ _) _).trans (hb2.mono (Nat.le_succ _))
    have HOWN := Lib.hid hown3
    clear hg2 hb2 hown2 hown3
    go_region_law (refine step_append_lies _ rfl (.tmp 50) (.tmp 52) 39 rfl (w.heap.size + 1) 43 i z 11 88 EG.und hi hz1 hsize hby hzs (by decide) (.slice A2 0 c2) 0 [] (by simp [Act.eval, Act.put]) (HOWN.out.alloc _) ⟨w2.heap.size, 0, none⟩ 1 1 [.int .i64 1, .int .i64 fa, .int .i64 fc, .int .i64 ta, .int .i64 tc, .int .i64 inst, .int .i64 qty, .int .i64 price, .int .i64 grp, .int .i64 (day + 8), .int .i64 1] (by simp [Act.eval, Act.put]) rfl ((Sl.new_ _ _ _).drew.row rfl) (gcells_one [⟨1, fa, fc, ta, tc, inst, qty, price, grp, day + 8, 1⟩]) (by decide) (by unfold maxLen; omega) (by omega) (by simp; omega) _ rfl ?_; intro g2 cap2 w3 hown4 hgr hat hltg; have hb3 := below_of_grown hgr (by simp; omega) (own_ge HOWN.out); have s0 : w3.cell? ⟨w.heap.size, 0, none⟩ = some (.int .i64 1) := (hb3.cell (p := ⟨w.heap.size, 0, none⟩) (Nat.lt_succ_self _)).trans ((World.cell?_alloc_lt w2 _ ⟨w.heap.size, 0, none⟩ hzlt).trans q0); have hBW3 := (since_alloc hBW _).drew.trans (hb3.mono (Nat.le_succ _)); clear hb3 hgr hat)
    all_goals
      go_wp2
      go_ret3
      refine ⟨.inr ⟨H.out, some ⟨g2, 0, none⟩, cap2, rfl, own_cap hown4, ?_⟩, hBW3⟩
      simpa [gcells, newG, Gv.cells] using Sl.of_own hown4

set_option maxHeartbeats 4000000 in
theorem rnew_more (A : Option Addr) (cap : Nat) (l : List Gv) (g : Gv) (day : Int) (w : World) (hl : 0 < l.length) (hs : Sl w A (gcells l)) (hids : Ids l) (h : newE l g day = 0) :
    Calls Try.prog 24 #[.slice A l.length cap, g.val, .int .i64 day] w fun e w' => newR w' e l g day ∧ Below w.heap.size w w' := by
  have h1 : ¬ (g.fa = g.ta ∧ g.fc = g.tc) := fun h1 => by unfold newE at h; rw [if_pos h1] at h; omega
  have h2 : ¬ (g.qty = 0 ∨ day < 0 ∨ 1048576 < day) := fun h2 => by unfold newE at h; rw [if_neg h1, if_pos h2] at h; omega
  have h3 : ¬ 64 ≤ l.length := fun h3 => by unfold newE at h; rw [if_neg h1, if_neg h2, if_pos h3] at h; omega
  obtain ⟨k, hk⟩ : ∃ k, l.length = k + 1 := ⟨l.length - 1, by omega⟩
  have hk1 : k < l.length := by omega
  obtain ⟨b, o, rfl, hbw, hgk⟩ := hs.give hk1
  have hz : w.cell? ⟨b, o + k * 11, none⟩ = some (.int .i64 (k + 1)) := by rw [hgk.1, hids k hk1]
  have HK := Lib.hid hk
  have hLen := gcells_length l
  rw [hk] at hLen
  have HLen := Lib.hid hLen
  have HS := Lib.hid hs
  have hk64 : k < 63 := by omega
  clear hgk hk1 hLen hs h3 hids
  obtain ⟨gid, fa, fc, ta, tc, inst, qty, price, grp, gday, st⟩ := g
  simp only at h1 h2
  have hcs := @cell_set
  have hq : (qty == 0) = false := by simp; omega
  have hd1 : decide (day < 0) = false := by simp; omega
  have hd2 : decide (1048576 < day) = false := by simp; omega
  have hd : 0 ≤ day ∧ day ≤ 1048576 := by omega
  have H := Lib.hid h
  clear h h2
  obtain ⟨i, z, hi, hz1, hsize, hby, hzs⟩ := EG.info
  rw [hk]
  clear hk hl
  unfold Gv.val
  by_cases hf : fa = ta
  · subst hf
    have hf2 : (fc == tc) = false := by simp; intro e; exact h1 ⟨rfl, e⟩
    clear h1
    go_enter Try.func24, Try.ntmps24
    go_wp2_with (first
      | (at_builtin; refine wpList_app rfl (.tmp 47) (.tmp 48) rfl EG (base := w.heap.size + 1) (m := (k + 1)) (news := (gcells l)) rfl rfl (own_nil _ _ _) HLen.out (HS.out.alloc _) (gcells_one l) (by unfold maxLen; omega) (by omega) (by simp) ?_; intro A2 c2 w2 hown2 hg2 hb2)
      | fail)
    have q0 : w2.cell? ⟨w.heap.size, 0, none⟩ = some (.int .i64 (k + 1 + 1)) := (hb2.cell (p := ⟨w.heap.size, 0, none⟩) (Nat.lt_succ_self _)).trans (by simp)
    have q1 : w2.cell? ⟨w.heap.size, 1, none⟩ = some (.int .i64 fa) := (hb2.cell (p := ⟨w.heap.size, 1, none⟩) (Nat.lt_succ_self _)).trans (by simp)
    have q2 : w2.cell? ⟨w.heap.size, 2, none⟩ = some (.int .i64 fc) := (hb2.cell (p := ⟨w.heap.size, 2, none⟩) (Nat.lt_succ_self _)).trans (by simp)
    have q3 : w2.cell? ⟨w.heap.size, 3, none⟩ = some (.int .i64 fa) := (hb2.cell (p := ⟨w.heap.size, 3, none⟩) (Nat.lt_succ_self _)).trans (by simp)
    have q4 : w2.cell? ⟨w.heap.size, 4, none⟩ = some (.int .i64 tc) := (hb2.cell (p := ⟨w.heap.size, 4, none⟩) (Nat.lt_succ_self _)).trans (by simp)
    have q5 : w2.cell? ⟨w.heap.size, 5, none⟩ = some (.int .i64 inst) := (hb2.cell (p := ⟨w.heap.size, 5, none⟩) (Nat.lt_succ_self _)).trans (by simp)
    have q6 : w2.cell? ⟨w.heap.size, 6, none⟩ = some (.int .i64 qty) := (hb2.cell (p := ⟨w.heap.size, 6, none⟩) (Nat.lt_succ_self _)).trans (by simp)
    have q7 : w2.cell? ⟨w.heap.size, 7, none⟩ = some (.int .i64 price) := (hb2.cell (p := ⟨w.heap.size, 7, none⟩) (Nat.lt_succ_self _)).trans (by simp)
    have q8 : w2.cell? ⟨w.heap.size, 8, none⟩ = some (.int .i64 grp) := (hb2.cell (p := ⟨w.heap.size, 8, none⟩) (Nat.lt_succ_self _)).trans (by simp)
    have q9 : w2.cell? ⟨w.heap.size, 9, none⟩ = some (.int .i64 (day + 8)) := (hb2.cell (p := ⟨w.heap.size, 9, none⟩) (Nat.lt_succ_self _)).trans (by simp)
    have q10 : w2.cell? ⟨w.heap.size, 10, none⟩ = some (.int .i64 1) := (hb2.cell (p := ⟨w.heap.size, 10, none⟩) (Nat.lt_succ_self _)).trans (by simp)
    have hown3 : w2.ownsRow (w.heap.size + 1) 43 11 (.slice A2 (k + 1) c2) (k + 1) (gcells l) := by simpa using hown2
    have hzlt : w.heap.size < w2.heap.size := by have := hb2.size; simp at this; omega
    have hBW : Below w.heap.size w w2 := (since_alloc (Below.refl _ _) _).trans (hb2.mono (Nat.le_succ _))
    have HOWN := Lib.hid hown3
    clear hg2 hb2 hown2 hown3
    have e00 : (k : Int) + 1 = ((k + 1 : Nat) : Int) := by simp
    clear e00
    go_region_law (refine step_append_lies _ rfl (.tmp 50) (.tmp 52) 39 rfl (w.heap.size + 1) 43 i z 11 88 EG.und hi hz1 hsize hby hzs (by decide) (.slice A2 (k + 1) c2) (k + 1) (gcells l) (by simp [Act.eval, Act.put]) (HOWN.out.alloc _) ⟨w2.heap.size, 0, none⟩ 1 1 [.int .i64 (k + 1 + 1), .int .i64 fa, .int .i64 fc, .int .i64 fa, .int .i64 tc, .int .i64 inst, .int .i64 qty, .int .i64 price, .int .i64 grp, .int .i64 (day + 8), .int .i64 1] (by simp [Act.eval, Act.put]) rfl ((Sl.new_ _ _ _).drew.row rfl) (gcells_one [⟨(k + 1 + 1), fa, fc, fa, tc, inst, qty, price, grp, day + 8, 1⟩]) (by decide) (by unfold maxLen; omega) (by omega) (by simp; omega) _ rfl ?_; intro g2 cap2 w3 hown4 hgr hat hltg; have hb3 := below_of_grown hgr (by simp; omega) (own_ge HOWN.out); have s0 : w3.cell? ⟨w.heap.size, 0, none⟩ = some (.int .i64 (k + 1 + 1)) := (hb3.cell (p := ⟨w.heap.size, 0, none⟩) (Nat.lt_succ_self _)).trans ((World.cell?_alloc_lt w2 _ ⟨w.heap.size, 0, none⟩ hzlt).trans q0); have hBW3 := (since_alloc hBW _).drew.trans (hb3.mono (Nat.le_succ _)); clear hb3 hgr hat)
    all_goals
      go_wp2
      go_ret3
      refine ⟨.inr ⟨H.out, some ⟨g2, 0, none⟩, cap2, ?_, ?_, ?_⟩, hBW3⟩
      · rw [HK.out]; rfl
      · rw [HK.out]; exact own_cap hown4
      · have := Sl.of_own hown4
        rw [gcells_append]
        unfold newG
        simp only [HK.out]
        exact this
  · have hf2 : (fa == ta) = false := by simpa using hf
    clear h1
    go_enter Try.func24, Try.ntmps24
    go_wp2_with (first
      | (at_builtin; refine wpList_app rfl (.tmp 47) (.tmp 48) rfl EG (base := w.heap.size + 1) (m := (k + 1)) (news := (gcells l)) rfl rfl (own_nil _ _ _) HLen.out (HS.out.alloc _) (gcells_one l) (by unfold maxLen; omega) (by omega) (by simp) ?_; intro A2 c2 w2 hown2 hg2 hb2)
      | fail)
    have q0 : w2.cell? ⟨w.heap.size, 0, none⟩ = some (.int .i64 (k + 1 + 1)) := (hb2.cell (p := ⟨w.heap.size, 0, none⟩) (Nat.lt_succ_self _)).trans (by simp)
    have q1 : w2.cell? ⟨w.heap.size, 1, none⟩ = some (.int .i64 fa) := (hb2.cell (p := ⟨w.heap.size, 1, none⟩) (Nat.lt_succ_self _)).trans (by simp)
    have q2 : w2.cell? ⟨w.heap.size, 2, none⟩ = some (.int .i64 fc) := (hb2.cell (p := ⟨w.heap.size, 2, none⟩) (Nat.lt_succ_self _)).trans (by simp)
    have q3 : w2.cell? ⟨w.heap.size, 3, none⟩ = some (.int .i64 ta) := (hb2.cell (p := ⟨w.heap.size, 3, none⟩) (Nat.lt_succ_self _)).trans (by simp)
    have q4 : w2.cell? ⟨w.heap.size, 4, none⟩ = some (.int .i64 tc) := (hb2.cell (p := ⟨w.heap.size, 4, none⟩) (Nat.lt_succ_self _)).trans (by simp)
    have q5 : w2.cell? ⟨w.heap.size, 5, none⟩ = some (.int .i64 inst) := (hb2.cell (p := ⟨w.heap.size, 5, none⟩) (Nat.lt_succ_self _)).trans (by simp)
    have q6 : w2.cell? ⟨w.heap.size, 6, none⟩ = some (.int .i64 qty) := (hb2.cell (p := ⟨w.heap.size, 6, none⟩) (Nat.lt_succ_self _)).trans (by simp)
    have q7 : w2.cell? ⟨w.heap.size, 7, none⟩ = some (.int .i64 price) := (hb2.cell (p := ⟨w.heap.size, 7, none⟩) (Nat.lt_succ_self _)).trans (by simp)
    have q8 : w2.cell? ⟨w.heap.size, 8, none⟩ = some (.int .i64 grp) := (hb2.cell (p := ⟨w.heap.size, 8, none⟩) (Nat.lt_succ_self _)).trans (by simp)
    have q9 : w2.cell? ⟨w.heap.size, 9, none⟩ = some (.int .i64 (day + 8)) := (hb2.cell (p := ⟨w.heap.size, 9, none⟩) (Nat.lt_succ_self _)).trans (by simp)
    have q10 : w2.cell? ⟨w.heap.size, 10, none⟩ = some (.int .i64 1) := (hb2.cell (p := ⟨w.heap.size, 10, none⟩) (Nat.lt_succ_self _)).trans (by simp)
    have hown3 : w2.ownsRow (w.heap.size + 1) 43 11 (.slice A2 (k + 1) c2) (k + 1) (gcells l) := by simpa using hown2
    have hzlt : w.heap.size < w2.heap.size := by have := hb2.size; simp at this; omega
    have hBW : Below w.heap.size w w2 := (since_alloc (Below.refl _ _) _).trans (hb2.mono (Nat.le_succ _))
    have HOWN := Lib.hid hown3
    clear hg2 hb2 hown2 hown3
    have e00 : (k : Int) + 1 = ((k + 1 : Nat) : Int) := by simp
    clear e00
    go_region_law (refine step_append_lies _ rfl (.tmp 50) (.tmp 52) 39 rfl (w.heap.size + 1) 43 i z 11 88 EG.und hi hz1 hsize hby hzs (by decide) (.slice A2 (k + 1) c2) (k + 1) (gcells l) (by simp [Act.eval, Act.put]) (HOWN.out.alloc _) ⟨w2.heap.size, 0, none⟩ 1 1 [.int .i64 (k + 1 + 1), .int .i64 fa, .int .i64 fc, .int .i64 ta, .int .i64 tc, .int .i64 inst, .int .i64 qty, .int .i64 price, .int .i64 grp, .int .i64 (day + 8), .int .i64 1] (by simp [Act.eval, Act.put]) rfl ((Sl.new_ _ _ _).drew.row rfl) (gcells_one [⟨(k + 1 + 1), fa, fc, ta, tc, inst, qty, price, grp, day + 8, 1⟩]) (by decide) (by unfold maxLen; omega) (by omega) (by simp; omega) _ rfl ?_; intro g2 cap2 w3 hown4 hgr hat hltg; have hb3 := below_of_grown hgr (by simp; omega) (own_ge HOWN.out); have s0 : w3.cell? ⟨w.heap.size, 0, none⟩ = some (.int .i64 (k + 1 + 1)) := (hb3.cell (p := ⟨w.heap.size, 0, none⟩) (Nat.lt_succ_self _)).trans ((World.cell?_alloc_lt w2 _ ⟨w.heap.size, 0, none⟩ hzlt).trans q0); have hBW3 := (since_alloc hBW _).drew.trans (hb3.mono (Nat.le_succ _)); clear hb3 hgr hat)
    all_goals
      go_wp2
      go_ret3
      refine ⟨.inr ⟨H.out, some ⟨g2, 0, none⟩, cap2, ?_, ?_, ?_⟩, hBW3⟩
      · rw [HK.out]; rfl
      · rw [HK.out]; exact own_cap hown4
      · have := Sl.of_own hown4
        rw [gcells_append]
        unfold newG
        simp only [HK.out]
        exact this
end Go.Proofs.Ytaaknohoaijfhaa
