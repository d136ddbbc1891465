/-
  The walks of layer 23, fifth part: New answers a longer row.
-/
import Derived.Test.YtaaknohoaijfhaaGive4
namespace Go.Proofs.Ytaaknohoaijfhaa
open Go.ChangeShapes Go.WideShapes Go.ChangeAt Go.RowKit
set_option linter.unusedVariables false
set_option linter.unusedSimpArgs false

set_option maxHeartbeats 2000000 in
theorem new_more (A : Option Addr) (cap : Nat) (l : List Gv) (g : Gv) (day : Int) (w : World) (hl : 0 < l.length) (hcap : l.length ≤ cap ∧ cap ≤ maxLen) (hs : Sl w A (gcells l)) (hids : Ids l) (h : newE l g day = 0) :
    Calls Try.prog 23 #[.slice A l.length cap, g.val, .int .i64 day] w fun e w' => newR w' e l g day ∧ Below w.heap.size w w' := by
  have h1 : ¬ (g.fa = g.ta ∧ g.fc = g.tc) := fun h1 => by unfold newE at h; rw [if_pos h1] at h; omega
  have h2 : ¬ (g.qty = 0 ∨ day < 0 ∨ 1048576 < day) := fun h2 => by unfold newE at h; rw [if_neg h1, if_pos h2] at h; omega
  have h3 : ¬ 64 ≤ l.length := fun h3 => by unfold newE at h; rw [if_neg h1, if_neg h2, if_pos h3] at h; omega
  obtain ⟨gid, fa, fc, ta, tc, inst, qty, price, grp, gday, st⟩ := g
  simp only at h1 h2
  obtain ⟨k, hk⟩ : ∃ k, l.length = k + 1 := ⟨l.length - 1, by omega⟩
  have hk1 : k < l.length := by omega
  obtain ⟨b, o, rfl, hbw, hg⟩ := hs.give hk1
  have hz : w.cell? ⟨b, o + k * 11, none⟩ = some (.int .i64 (k + 1)) := by rw [hg.1, hids k hk1]
  have HO := Lib.hid (show Sl (((w.alloc (.cells #[.int .i64 (k + 1 + 1), .int .i64 fa, .int .i64 fc, .int .i64 ta, .int .i64 tc, .int .i64 inst, .int .i64 qty, .int .i64 price, .int .i64 grp, .int .i64 (day + 8), .int .i64 1] 43)).alloc (.cells #[.int .i64 (k + 1 + 1), .int .i64 fa, .int .i64 fc, .int .i64 ta, .int .i64 tc, .int .i64 inst, .int .i64 qty, .int .i64 price, .int .i64 grp, .int .i64 (day + 8), .int .i64 1] 43)).drew) (some ⟨b, o, none⟩) (gcells l) from ((hs.alloc _).alloc _).drew)
  have HL := Lib.hid (show (gcells l).length = (k + 1) * 11 by rw [gcells_length, hk])
  have HK := Lib.hid hk
  clear hg hk1
  have hcs := @cell_set
  have hq : (qty == 0) = false := by simp; omega
  have hd1 : decide (day < 0) = false := by simp; omega
  have hd2 : decide (1048576 < day) = false := by simp; omega
  have hd : 0 ≤ day ∧ day ≤ 1048576 := by omega
  have hk64 : k < 63 := by omega
  have hkc : k + 1 ≤ cap := by omega
  have h01 : 0 ≤ (k : Int) + 1 := by omega
  have h02 : (k : Int) + 1 ≤ (cap : Int) := by omega
  have H := Lib.hid h
  have HI := Lib.hid hids
  clear h h2 h3 hids
  obtain ⟨i, z, hi, hz1, hsize, hby, hzs⟩ := EG.info
  rw [hk]
  clear hk hl hcap
  unfold Gv.val
  by_cases hf : fa = ta
  · subst hf
    have hf2 : (fc == tc) = false := by simp; intro e; exact h1 ⟨rfl, e⟩
    clear h1
    go_enter Try.func23, Try.ntmps23
    go_wp2_with fail
    go_region_law (refine step_append_grows rfl (.tmp 51) (.tmp 53) 39 rfl 43 i z 11 88 EG.und hi hz1 hsize hby hzs (by decide) (some ⟨b, o, none⟩) (k + 1) (k + 1) (gcells l) (by simp [Act.eval, Act.put]) (fun h => by cases h) HL.out (by intro b' hb'; cases hb'; exact HO.out.row rfl) ⟨w.heap.size + 1, 0, none⟩ 1 1 [.int .i64 (k + 1 + 1), .int .i64 fa, .int .i64 fc, .int .i64 fa, .int .i64 tc, .int .i64 inst, .int .i64 qty, .int .i64 price, .int .i64 grp, .int .i64 (day + 8), .int .i64 1] (by simp [Act.eval, Act.put]) rfl ((Sl.new1 _ _ _ _).drew.row rfl) (gcells_one [⟨k + 1 + 1, fa, fc, fa, tc, inst, qty, price, grp, day + 8, 1⟩]) (by omega) (by unfold maxLen; omega) (by omega) ?_; intro v' w' hown hgrow; obtain ⟨A1, c1, rfl⟩ := own_form hown; have hbW := below_of_grown hgrow (Nat.le_refl _) (by simp); have hc0 : w'.cell? ⟨w.heap.size, 0, none⟩ = some (.int .i64 (k + 1 + 1)) := (hbW.cell (p := ⟨w.heap.size, 0, none⟩) (by simp; omega)).trans (by simp); have hBW := since_step (since_alloc (since_alloc (Below.refl _ w) _) _).drew hbW; clear hbW)
    all_goals
      go_wp2
      go_ret3
      refine ⟨.inr ⟨H.out, A1, c1, ?_, ?_, ?_⟩, hBW⟩
      · rw [HK.out]; rfl
      · rw [HK.out]; exact own_cap hown
      · have := Sl.of_own hown
        rw [gcells_append]
        unfold newG
        simp only [HK.out]
        exact this
  · have hf2 : (fa == ta) = false := by simpa using hf
    clear h1
    go_enter Try.func23, Try.ntmps23
    go_wp2_with fail
    go_region_law (refine step_append_grows rfl (.tmp 51) (.tmp 53) 39 rfl 43 i z 11 88 EG.und hi hz1 hsize hby hzs (by decide) (some ⟨b, o, none⟩) (k + 1) (k + 1) (gcells l) (by simp [Act.eval, Act.put]) (fun h => by cases h) HL.out (by intro b' hb'; cases hb'; exact HO.out.row rfl) ⟨w.heap.size + 1, 0, none⟩ 1 1 [.int .i64 (k + 1 + 1), .int .i64 fa, .int .i64 fc, .int .i64 ta, .int .i64 tc, .int .i64 inst, .int .i64 qty, .int .i64 price, .int .i64 grp, .int .i64 (day + 8), .int .i64 1] (by simp [Act.eval, Act.put]) rfl ((Sl.new1 _ _ _ _).drew.row rfl) (gcells_one [⟨k + 1 + 1, fa, fc, ta, tc, inst, qty, price, grp, day + 8, 1⟩]) (by omega) (by unfold maxLen; omega) (by omega) ?_; intro v' w' hown hgrow; obtain ⟨A1, c1, rfl⟩ := own_form hown; have hbW := below_of_grown hgrow (Nat.le_refl _) (by simp); have hc0 : w'.cell? ⟨w.heap.size, 0, none⟩ = some (.int .i64 (k + 1 + 1)) := (hbW.cell (p := ⟨w.heap.size, 0, none⟩) (by simp; omega)).trans (by simp); have hBW := since_step (since_alloc (since_alloc (Below.refl _ w) _) _).drew hbW; clear hbW)
    all_goals
      go_wp2
      go_ret3
      refine ⟨.inr ⟨H.out, A1, c1, ?_, ?_, ?_⟩, hBW⟩
      · rw [HK.out]; rfl
      · rw [HK.out]; exact own_cap hown
      · have := Sl.of_own hown
        rw [gcells_append]
        unfold newG
        simp only [HK.out]
        exact this

/-- a row of give-ups as a value, such as New and Turn make -/
def GL (w : World) (A : Option Addr) (cap : Nat) (l : List Gv) : Prop := (l = [] → A = none ∧ cap = 0) ∧ (l.length ≤ cap ∧ cap ≤ maxLen) ∧ l.length ≤ 64 ∧ Ids l ∧ Sl w A (gcells l)
theorem GL.below {w w' : World} {A : Option Addr} {cap : Nat} {l : List Gv} (h : GL w A cap l) (hb : Below w.heap.size w w') : GL w' A cap l := ⟨h.1, h.2.1, h.2.2.1, h.2.2.2.1, h.2.2.2.2.below hb⟩
theorem GL.nil (w : World) : GL w none 0 [] := ⟨fun _ => ⟨rfl, rfl⟩, ⟨Nat.le_refl _, by decide⟩, by decide, fun k h => by simp at h, Sl.nil⟩
theorem new_any (A : Option Addr) (cap : Nat) (l : List Gv) (g : Gv) (day : Int) (w : World) (h : GL w A cap l) :
    Calls Try.prog 23 #[.slice A l.length cap, g.val, .int .i64 day] w fun e w' => newR w' e l g day ∧ Below w.heap.size w w' := by
  obtain ⟨h1, h2, h3, h4, h5⟩ := h
  by_cases hE : newE l g day = 0
  · cases l with
    | nil => obtain ⟨rfl, rfl⟩ := h1 rfl; exact new_first g day w hE
    | cons a m => exact new_more A cap _ g day w (by simp) h2 h5 h4 hE
  · exact new_bad A cap l g day w (by omega) h5 hE
theorem Ids.new {l : List Gv} (h : Ids l) (g : Gv) (day : Int) : Ids (l ++ [newG l g day]) := by
  intro k hk
  simp at hk
  rcases Nat.lt_or_ge k l.length with h1 | h1
  · rw [List.getElem_append_left h1]; exact h k h1
  · obtain rfl : k = l.length := by omega
    simp [newG]
theorem Ids.turn {l : List Gv} (h : Ids l) (id st : Int) : Ids (turnL l id st) := by
  intro k hk
  unfold turnL at hk ⊢
  simp at hk
  rw [List.getElem_set]
  split
  · rename_i e; subst e; simp only [List.getD_eq_getElem?_getD, List.getElem?_eq_getElem hk, Option.getD_some]; exact h _ hk
  · exact h k hk
theorem GL.new {w' : World} {A' : Option Addr} {c' : Nat} {l : List Gv} {g : Gv} {day : Int} (hE : newE l g day = 0) (hi : Ids l) (h1 : l.length + 1 ≤ c' ∧ c' ≤ maxLen) (h2 : Sl w' A' (gcells (l ++ [newG l g day]))) : GL w' A' c' (l ++ [newG l g day]) := by
  refine ⟨fun h => by simp at h, by simpa using h1, ?_, hi.new g day, h2⟩
  unfold newE at hE
  simp
  split at hE
  · omega
  · split at hE
    · omega
    · split at hE
      · omega
      · omega
theorem GL.turn {w' : World} {A A' : Option Addr} {c c' : Nat} {w : World} {l : List Gv} {id st : Int} (h : GL w A c l) (hE : turnE l id st = 0) (h1 : l.length ≤ c' ∧ c' ≤ maxLen) (h2 : Sl w' A' (gcells (turnL l id st))) : GL w' A' c' (turnL l id st) := by
  have hl : (turnL l id st).length = l.length := by unfold turnL; simp
  refine ⟨fun e => ?_, by rw [hl]; exact h1, by rw [hl]; exact h.2.2.1, h.2.2.2.1.turn id st, h2⟩
  exfalso
  have e0 : l = [] := List.eq_nil_of_length_eq_zero (by rw [← hl, e]; rfl)
  subst e0
  unfold turnE gAt at hE
  simp at hE
end Go.Proofs.Ytaaknohoaijfhaa
