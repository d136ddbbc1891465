/-
  The walks of layer 23, fourth part: New answers a row.
-/
import Derived.Test.YtaaknohoaijfhaaGive3
import Derived.Deep.RegionLaw
namespace Go.Proofs.Ytaaknohoaijfhaa
open Go.ChangeShapes Go.WideShapes Go.ChangeAt Go.RowKit
set_option linter.unusedVariables false
set_option linter.unusedSimpArgs false

set_option maxHeartbeats 2000000 in
theorem new_first (g : Gv) (day : Int) (w : World) (h : newE [] g day = 0) :
    Calls Try.prog 23 #[.slice none 0 0, g.val, .int .i64 day] w fun e w' => newR w' e [] g day ∧ Below w.heap.size w w' := by
  have h1 : ¬ (g.fa = g.ta ∧ g.fc = g.tc) := fun h1 => by unfold newE at h; rw [if_pos h1] at h; omega
  have h2 : ¬ (g.qty = 0 ∨ day < 0 ∨ 1048576 < day) := fun h2 => by unfold newE at h; rw [if_neg h1, if_pos h2] at h; omega
  obtain ⟨gid, fa, fc, ta, tc, inst, qty, price, grp, gday, st⟩ := g
  simp only at h1 h2
  have hcs := @cell_set
  have hq : (qty == 0) = false := by simp; omega
  have hd1 : decide (day < 0) = false := by simp; omega
  have hd2 : decide (1048576 < day) = false := by simp; omega
  have hd : 0 ≤ day ∧ day ≤ 1048576 := by omega
  have H := Lib.hid h
  clear h h2
  obtain ⟨i, z, hi, hz, hsize, hby, hzs⟩ := EG.info
  unfold Gv.val
  by_cases hf : fa = ta
  · subst hf
    have hf2 : (fc == tc) = false := by simp; intro e; exact h1 ⟨rfl, e⟩
    clear h1
    go_enter Try.func23, Try.ntmps23
    go_wp2_with fail
    go_region_law (refine step_append_grows rfl (.tmp 51) (.tmp 53) 39 rfl 43 i z 11 88 EG.und hi hz hsize hby hzs (by decide) none 0 0 [] (by simp [Act.eval, Act.put]) (fun _ => ⟨rfl, rfl⟩) rfl (by intro b hb; cases hb) ⟨w.heap.size + 1, 0, none⟩ 1 1 [.int .i64 1, .int .i64 fa, .int .i64 fc, .int .i64 fa, .int .i64 tc, .int .i64 inst, .int .i64 qty, .int .i64 price, .int .i64 grp, .int .i64 (day + 8), .int .i64 1] (by simp [Act.eval, Act.put]) rfl ((Sl.new1 _ _ _ _).drew.row rfl) (gcells_one [⟨1, fa, fc, fa, tc, inst, qty, price, grp, day + 8, 1⟩]) (by decide) (by decide) (by decide) ?_; intro v' w' hown hgrow; obtain ⟨A1, c1, rfl⟩ := own_form hown; have hbW := below_of_grown hgrow (Nat.le_refl _) (by simp); have hc0 : w'.cell? ⟨w.heap.size, 0, none⟩ = some (.int .i64 1) := (hbW.cell (p := ⟨w.heap.size, 0, none⟩) (by simp; omega)).trans (by simp); have hBW := since_step (since_alloc (since_alloc (Below.refl _ w) _) _).drew hbW; clear hbW)
    all_goals
      go_wp2
      go_ret3
      refine ⟨.inr ⟨H.out, A1, c1, rfl, own_cap hown, ?_⟩, hBW⟩
      simpa [gcells, newG, Gv.cells] using Sl.of_own hown
  · have hf2 : (fa == ta) = false := by simpa using hf
    clear h1
    go_enter Try.func23, Try.ntmps23
    go_wp2_with fail
    go_region_law (refine step_append_grows rfl (.tmp 51) (.tmp 53) 39 rfl 43 i z 11 88 EG.und hi hz hsize hby hzs (by decide) none 0 0 [] (by simp [Act.eval, Act.put]) (fun _ => ⟨rfl, rfl⟩) rfl (by intro b hb; cases hb) ⟨w.heap.size + 1, 0, none⟩ 1 1 [.int .i64 1, .int .i64 fa, .int .i64 fc, .int .i64 ta, .int .i64 tc, .int .i64 inst, .int .i64 qty, .int .i64 price, .int .i64 grp, .int .i64 (day + 8), .int .i64 1] (by simp [Act.eval, Act.put]) rfl ((Sl.new1 _ _ _ _).drew.row rfl) (gcells_one [⟨1, fa, fc, ta, tc, inst, qty, price, grp, day + 8, 1⟩]) (by decide) (by decide) (by decide) ?_; intro v' w' hown hgrow; obtain ⟨A1, c1, rfl⟩ := own_form hown; have hbW := below_of_grown hgrow (Nat.le_refl _) (by simp); have hc0 : w'.cell? ⟨w.heap.size, 0, none⟩ = some (.int .i64 1) := (hbW.cell (p := ⟨w.heap.size, 0, none⟩) (by simp; omega)).trans (by simp); have hBW := since_step (since_alloc (since_alloc (Below.refl _ w) _) _).drew hbW; clear hbW)
    all_goals
      go_wp2
      go_ret3
      refine ⟨.inr ⟨H.out, A1, c1, rfl, own_cap hown, ?_⟩, hBW⟩
      simpa [gcells, newG, Gv.cells] using Sl.of_own hown
end Go.Proofs.Ytaaknohoaijfhaa
