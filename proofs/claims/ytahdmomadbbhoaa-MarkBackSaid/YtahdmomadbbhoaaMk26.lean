import Derived.Test.YtahdmomadbbhoaaMk08
import Derived.Test.YtahdmomadbbhoaaMk25
section
namespace Go.Proofs.Ytahdmomadbbhoaa
open Go.ChangeShapes Go.WideShapes Go.ChangeAt Go.RowKit
set_option linter.unusedVariables false
set_option linter.unusedSimpArgs false

def GI9 (w : World) (l : List Iq) : Prop := ∀ g ∈ l, ∃ i : Ins, GI w g i ∧ i.mv.length ≤ 9
theorem GI9.below {w w' : World} {l : List Iq} (h : GI9 w l) (hb : Below w.heap.size w w') : GI9 w' l := fun g hg => by
  obtain ⟨i, hi, hl⟩ := h g hg
  exact ⟨i, hi.below hb, hl⟩
theorem GI9.tab {w : World} : ∀ {l : List Iq}, GI9 w l → ∃ is : List Ins, InTab w l is ∧ ∀ i ∈ is, i.mv.length ≤ 9
  | [], _ => ⟨[], InTab.nil w, fun i h => by cases h⟩
  | g :: l, h => by
    obtain ⟨is, ht, hl⟩ := GI9.tab (l := l) fun x hx => h x (List.mem_cons_of_mem _ hx)
    obtain ⟨i, hi, h9⟩ := h g List.mem_cons_self
    refine ⟨i :: is, InTab.cons hi ht, fun x hx => ?_⟩
    rcases List.mem_cons.1 hx with rfl | hx
    · exact h9
    · exact hl x hx
theorem rd_insrow {w : World} {r : List Value} (h : Rd w (.cat (.int .i64) (.cat (.int .i64) (.cat (.int .i64) (.cat (.int .i64) (.cat (.sl (.int .i64)) .nil))))) r) : ∃ g : Iq, r = g.cells ∧ ∃ i : Ins, GI w g i := by
  obtain ⟨x1, y1, rfl, ⟨n1, rfl, w1⟩, x2, y2, rfl, ⟨n2, rfl, w2⟩, x3, y3, rfl, ⟨n3, rfl, w3⟩, x4, y4, rfl, ⟨n4, rfl, w4⟩, x5, y5, rfl, h5, rfl⟩ := h
  obtain ⟨A, n, c, rows, rfl, r⟩ := _root_.id h5
  obtain ⟨l, hl, hc, hm, hs, hw⟩ := rd_ints h5
  exact ⟨⟨n1, n2, n3, n4, A, n, c⟩, rfl, ⟨n1, n2, n3, n4, l⟩, ⟨rfl, rfl, rfl, rfl, hl.symm, ⟨⟨by simp only; omega, hm⟩, hs, All64.ofI hw, bd_i64 w1, bd_i64 w2, bd_i64 w3, bd_i64 w4⟩⟩⟩
end Go.Proofs.Ytahdmomadbbhoaa
end
