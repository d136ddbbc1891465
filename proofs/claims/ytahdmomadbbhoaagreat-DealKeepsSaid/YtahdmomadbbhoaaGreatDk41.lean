import Derived.Test.YtahdmomadbbhoaaGreatDk39
import Derived.Test.YtahdmomadbbhoaaGreatDk40
import Derived.Test.YtahdmomadbbhoaaGreatDk14
import Derived.Test.YtahdmomadbbhoaaGreatDk15
import Derived.Test.YtahdmomadbbhoaaGreatDk30
section
namespace Go.Proofs.YtahdmomadbbhoaaGreat
open Go.ChangeShapes Go.WideShapes Go.ChangeAt Go.RowKit
set_option linter.unusedVariables false
set_option linter.unusedSimpArgs false

theorem purseOf_lenD (all : List Fw) : (purseOf all).length ≤ all.length := by
  have h1 := outU_len all (unitsU all)
  have h2 := unitsU_len all
  show (outU all (unitsU all)).length ≤ _
  omega
def dchk (i : Ins) (q pr : Int) : Bool := okB i && prB pr && !(q == 0) && decide (-1099511627776 ≤ q) && decide (q ≤ 1099511627776)
theorem dchk_iff (i : Ins) (q pr : Int) : dchk i q pr = true ↔ okB i = true ∧ prB pr = true ∧ q ≠ 0 ∧ -1099511627776 ≤ q ∧ q ≤ 1099511627776 := by
  unfold dchk
  simp [and_assoc]
noncomputable def dealR (cs : List Pc) (p : List Fw) (i : Ins) (fa fc ta tc q pr : Int) : Int × List Pc × List Fw :=
  if isH cs = false ∨ isF p = false then (3, [], []) else if dchk i q pr = false then (2, [], []) else if fa = ta ∧ fc = tc then (24, [], [])
  else if ¬ In64 (gainZ i q pr i.price) then (7, [], [])
  else if (moveP cs fa fc ta tc [⟨i.id, q⟩]).1 ≠ 0 then ((moveP cs fa fc ta tc [⟨i.id, q⟩]).1, [], [])
  else if (moveR p fa fc ta tc (gainZ i q pr i.price)).1 ≠ 0 then ((moveR p fa fc ta tc (gainZ i q pr i.price)).1, [], [])
  else (0, (moveP cs fa fc ta tc [⟨i.id, q⟩]).2, (moveR p fa fc ta tc (gainZ i q pr i.price)).2)
section
variable {cs B : List Pc} {p P : List Fw} {i : Ins} {fa fc ta tc q pr n : Int}
theorem dealR_form (h : isH cs = false ∨ isF p = false) : dealR cs p i fa fc ta tc q pr = (3, [], []) := if_pos h
theorem dealR_arg (h1 : isH cs = true) (h2 : isF p = true) (h3 : dchk i q pr = false) : dealR cs p i fa fc ta tc q pr = (2, [], []) := by
  unfold dealR
  rw [if_neg (by simp [h1, h2]), if_pos h3]
theorem dealR_same (h1 : isH cs = true) (h2 : isF p = true) (h3 : dchk i q pr = true) (h4 : fa = ta ∧ fc = tc) : dealR cs p i fa fc ta tc q pr = (24, [], []) := by
  unfold dealR
  rw [if_neg (by simp [h1, h2]), if_neg (by simp [h3]), if_pos h4]
theorem dealR_far (h1 : isH cs = true) (h2 : isF p = true) (h3 : dchk i q pr = true) (h4 : ¬ (fa = ta ∧ fc = tc)) (h5 : ¬ In64 (gainZ i q pr i.price)) : dealR cs p i fa fc ta tc q pr = (7, [], []) := by
  unfold dealR
  rw [if_neg (by simp [h1, h2]), if_neg (by simp [h3]), if_neg h4, if_pos h5]
theorem dealR_pos (h1 : isH cs = true) (h2 : isF p = true) (h3 : dchk i q pr = true) (h4 : ¬ (fa = ta ∧ fc = tc)) (h5 : In64 (gainZ i q pr i.price)) (h6 : moveP cs fa fc ta tc [⟨i.id, q⟩] = (n, B)) (hn : n ≠ 0) : dealR cs p i fa fc ta tc q pr = (n, [], []) := by
  unfold dealR
  rw [if_neg (by simp [h1, h2]), if_neg (by simp [h3]), if_neg h4, if_neg (by simp [h5]), h6, if_pos hn]
theorem dealR_cash (h1 : isH cs = true) (h2 : isF p = true) (h3 : dchk i q pr = true) (h4 : ¬ (fa = ta ∧ fc = tc)) (h5 : In64 (gainZ i q pr i.price)) (h6 : moveP cs fa fc ta tc [⟨i.id, q⟩] = (0, B)) (h7 : moveR p fa fc ta tc (gainZ i q pr i.price) = (n, P)) (hn : n ≠ 0) : dealR cs p i fa fc ta tc q pr = (n, [], []) := by
  unfold dealR
  rw [if_neg (by simp [h1, h2]), if_neg (by simp [h3]), if_neg h4, if_neg (by simp [h5]), h6, if_neg (by simp), h7, if_pos hn]
theorem dealR_ok (h1 : isH cs = true) (h2 : isF p = true) (h3 : dchk i q pr = true) (h4 : ¬ (fa = ta ∧ fc = tc)) (h5 : In64 (gainZ i q pr i.price)) (h6 : moveP cs fa fc ta tc [⟨i.id, q⟩] = (0, B)) (h7 : moveR p fa fc ta tc (gainZ i q pr i.price) = (0, P)) : dealR cs p i fa fc ta tc q pr = (0, B, P) := by
  unfold dealR
  rw [if_neg (by simp [h1, h2]), if_neg (by simp [h3]), if_neg h4, if_neg (by simp [h5]), h6, if_neg (by simp), h7, if_neg (by simp)]
theorem dealR_errs (h : dealR cs p i fa fc ta tc q pr = (n, B, P)) (hn : n ≠ 0) : B = [] ∧ P = [] := by
  unfold dealR at h
  repeat' split at h
  all_goals first
    | (simp only [Prod.mk.injEq] at h; exact ⟨h.2.1.symm, h.2.2.symm⟩)
    | (simp only [Prod.mk.injEq] at h; exact absurd h.1.symm hn)
theorem dealR_facts (h : dealR cs p i fa fc ta tc q pr = (0, B, P)) : isH cs = true ∧ isF p = true ∧ dchk i q pr = true ∧ ¬ (fa = ta ∧ fc = tc) ∧ In64 (gainZ i q pr i.price) ∧ moveP cs fa fc ta tc [⟨i.id, q⟩] = (0, B) ∧ moveR p fa fc ta tc (gainZ i q pr i.price) = (0, P) := by
  unfold dealR at h
  split at h
  · cases h
  · rename_i h1
    split at h
    · cases h
    · rename_i h2
      split at h
      · cases h
      · rename_i h3
        split at h
        · cases h
        · rename_i h4
          split at h
          · rename_i h5
            simp only [Prod.mk.injEq] at h
            exact absurd h.1 h5
          · rename_i h5
            split at h
            · rename_i h6
              simp only [Prod.mk.injEq] at h
              exact absurd h.1 h6
            · rename_i h6
              simp only [Prod.mk.injEq] at h
              obtain ⟨_, e1, e2⟩ := h
              have h5 := Decidable.not_not.1 h5
              have h6 := Decidable.not_not.1 h6
              have a1 : isH cs = true := by cases hh : isH cs <;> simp_all
              have a2 : isF p = true := by cases hh : isF p <;> simp_all
              exact ⟨a1, a2, by simpa using h2, h3, Decidable.not_not.1 h4, Prod.ext h5 e1, Prod.ext h6 e2⟩
theorem moveR_facts {m : Int} (h : moveR p fa fc ta tc m = (0, P)) : isF p = true ∧ In64 (-m) ∧ P = purseOf (p ++ [⟨fa, fc, -m⟩, ⟨ta, tc, m⟩]) := by
  unfold moveR at h
  split at h
  · cases h
  · rename_i h1
    split at h
    · rename_i h2
      exact ⟨by simpa using h1, h2, (payR_facts h).2⟩
    · cases h
theorem moveR_sum {m : Int} (h : moveR p fa fc ta tc m = (0, P)) (a c : Int) : sumU P a c = sumU p a c + (if fa = a ∧ fc = c then -m else 0) + (if ta = a ∧ tc = c then m else 0) := by
  obtain ⟨_, _, rfl⟩ := moveR_facts h
  rw [sumU_purseOf, sumU_append, sumU_cons, sumU_cons]
  have e1 : unF a c ⟨fa, fc, -m⟩ = decide (fa = a ∧ fc = c) := by unfold unF; simp only [Bool.decide_and]; rfl
  have e2 : unF a c ⟨ta, tc, m⟩ = decide (ta = a ∧ tc = c) := by unfold unF; simp only [Bool.decide_and]; rfl
  rw [e1, e2]
  simp only [decide_eq_true_eq]
  have e3 : sumU [] a c = 0 := rfl
  rw [e3]
  omega
theorem moveR_get {m : Int} (h : moveR p fa fc ta tc m = (0, P)) (a c : Int) : getF P a c = getF p a c + (if fa = a ∧ fc = c then -m else 0) + (if ta = a ∧ tc = c then m else 0) := by
  obtain ⟨h1, _, h3⟩ := moveR_facts h
  rw [getF_purse (isF_sorted h1), ← moveR_sum h a c, h3, getF_purse (purseOf_sorted _)]
theorem moveR_is {m : Int} (h : moveR p fa fc ta tc m = (0, P)) : isF P = true := by
  obtain ⟨_, _, rfl⟩ := moveR_facts h
  exact purseOf_is _
theorem moveR_tot {m : Int} (h : moveR p fa fc ta tc m = (0, P)) : totF P = totF p := by
  obtain ⟨_, _, rfl⟩ := moveR_facts h
  rw [totF_purseOf]
  unfold totF
  simp
  omega
theorem moveR_back {m : Int} {Q : List Fw} (h : moveR p fa fc ta tc m = (0, P)) (h2 : moveR P ta tc fa fc m = (0, Q)) : Q = p := by
  obtain ⟨h1, _, _⟩ := moveR_facts h
  obtain ⟨_, _, e⟩ := moveR_facts h2
  have hq : purseOf Q = Q := purseOf_self (moveR_is h2)
  rw [← hq, ← purseOf_self h1]
  refine (purseOf_ext fun a c => ?_)
  rw [moveR_sum h2, moveR_sum h]
  split <;> split <;> omega
theorem deal_back {B2 : List Pc} {P2 : List Fw} (h : dealR cs p i fa fc ta tc q pr = (0, B, P)) (h2 : dealR B P i ta tc fa fc q pr = (0, B2, P2)) : B2 = cs ∧ P2 = p := by
  obtain ⟨_, _, _, _, _, a6, a7⟩ := dealR_facts h
  obtain ⟨_, _, _, _, _, b6, b7⟩ := dealR_facts h2
  exact ⟨movP_back a6 b6, moveR_back a7 b7⟩
theorem deal_keeps (h : dealR cs p i fa fc ta tc q pr = (0, B, P)) : balP B = balP cs ∧ totF P = totF p ∧ isH B = true ∧ isF P = true := by
  obtain ⟨_, _, _, _, _, a6, a7⟩ := dealR_facts h
  exact ⟨balP_same fun t h1 h8 => movP_sum a6 t h1 h8, moveR_tot a7, (movP_is a6).2.1, moveR_is a7⟩
theorem deal_other (h : dealR cs p i fa fc ta tc q pr = (0, B, P)) {oa oc : Int} (h1 : ¬ (oa = fa ∧ oc = fc)) (h2 : ¬ (oa = ta ∧ oc = tc)) : lotsH B oa oc = lotsH cs oa oc ∧ getF P oa oc = getF p oa oc := by
  obtain ⟨_, _, _, _, _, a6, a7⟩ := dealR_facts h
  refine ⟨movP_other a6 h1 h2, ?_⟩
  rw [moveR_get a7, if_neg (fun h => h1 ⟨h.1.symm, h.2.symm⟩), if_neg (fun h => h2 ⟨h.1.symm, h.2.symm⟩)]
  omega
theorem deal_stands (h : dealR cs p i fa fc ta tc q i.price = (0, B, P)) : getF P fa fc = getF p fa fc := by
  obtain ⟨_, _, _, a4, _, a6, a7⟩ := dealR_facts h
  rw [moveR_get a7]
  have e : gainZ i q i.price i.price = 0 := by unfold gainZ; simp
  rw [e]
  simp
theorem deal_nets {B2 : List Pc} {P2 : List Fw} {buy sell : Int} (h : dealR cs p i fa fc ta tc q buy = (0, B, P)) (h2 : dealR B P i ta tc fa fc q sell = (0, B2, P2)) : B2 = cs ∧ getF P2 ta tc - getF p ta tc = q * i.mult * (sell - buy) := by
  obtain ⟨_, _, _, a4, _, a6, a7⟩ := dealR_facts h
  obtain ⟨_, _, _, _, _, b6, b7⟩ := dealR_facts h2
  refine ⟨movP_back a6 b6, ?_⟩
  rw [moveR_get b7, moveR_get a7, if_neg a4, if_pos ⟨rfl, rfl⟩, if_pos ⟨rfl, rfl⟩, if_neg a4]
  unfold gainZ
  rw [show q * (i.price - buy) * i.mult = q * i.mult * (i.price - buy) by rw [Int.mul_assoc, Int.mul_comm (i.price - buy), ← Int.mul_assoc], show q * (i.price - sell) * i.mult = q * i.mult * (i.price - sell) by rw [Int.mul_assoc, Int.mul_comm (i.price - sell), ← Int.mul_assoc]]
  generalize q * i.mult = z
  rw [Int.mul_sub, Int.mul_sub, Int.mul_sub]
  omega
theorem deal_bd (hcl : ∀ g ∈ cs, g.L.length ≤ 12) (h : dealR cs p i fa fc ta tc q pr = (n, B, P)) : B.length ≤ cs.length + 2 ∧ P.length ≤ p.length + 2 ∧ ∀ g ∈ B, g.L.length ≤ 12 := by
  by_cases hn : n = 0
  · subst hn
    obtain ⟨_, _, _, _, _, a6, a7⟩ := dealR_facts h
    obtain ⟨_, _, _, b4, b5⟩ := movP_is a6
    refine ⟨b4, ?_, b5 12 (by omega) hcl⟩
    obtain ⟨_, _, rfl⟩ := moveR_facts a7
    have hu := purseOf_lenD (p ++ [⟨fa, fc, -gainZ i q pr i.price⟩, ⟨ta, tc, gainZ i q pr i.price⟩])
    simpa using hu
  · obtain ⟨rfl, rfl⟩ := dealR_errs h hn
    exact ⟨by simp, by simp, fun g hg => by cases hg⟩
end
end Go.Proofs.YtahdmomadbbhoaaGreat
end
section
namespace Go.Proofs.YtahdmomadbbhoaaGreat
open Go.ChangeShapes Go.WideShapes Go.ChangeAt Go.RowKit
set_option linter.unusedVariables false
set_option linter.unusedSimpArgs false

def GI9 (w : World) (l : List Iq) : Prop := ∀ g ∈ l, ∃ i : Ins, GI w g i ∧ i.mv.length ≤ 9
theorem GI9.below {w w' : World} {l : List Iq} (h : GI9 w l) (hb : Below w.heap.size w w') : GI9 w' l := fun g hg => by
  obtain ⟨i, hi, hl⟩ := h g hg
  exact ⟨i, hi.below hb, hl⟩
theorem GI9.tab {w : World} : ∀ {l : List Iq}, GI9 w l → ∃ is : List Ins, InTab w l is ∧ ∀ i ∈ is, i.mv.length ≤ 9
  | [], _ => ⟨[], InTab.nil w, fun i h => by cases h⟩
  | g :: l, h => by
    obtain ⟨is, ht, hl⟩ := GI9.tab (l := l) fun x hx => h x (List.mem_cons_of_mem _ hx)
    obtain ⟨i, hi, h9⟩ := h g List.mem_cons_self
    refine ⟨i :: is, InTab.cons hi ht, fun x hx => ?_⟩
    rcases List.mem_cons.1 hx with rfl | hx
    · exact h9
    · exact hl x hx
end Go.Proofs.YtahdmomadbbhoaaGreat
end
section
namespace Go.Proofs.YtahdmomadbbhoaaGreat
open Go.ChangeShapes Go.WideShapes Go.ChangeAt Go.RowKit
set_option linter.unusedVariables false
set_option linter.unusedSimpArgs false

theorem InH.belowK {w w' : World} {g : Po} (h : InH w g) (hb : Below w.heap.size w w') : InH w' g := by
  obtain ⟨L, h1, h2, h3, h4, h5⟩ := h
  exact ⟨L, h1, h2, h3, h4.below hb, h5⟩
def InK (w : World) (g : Po) : Prop := (In64 g.ac ∧ In64 g.cl) ∧ InH w g
theorem InK.below {w w' : World} {g : Po} (h : InK w g) (hb : Below w.heap.size w w') : InK w' g := ⟨h.1, h.2.belowK hb⟩
theorem rd_posk {w : World} {r : List Value} (h : Rd w (.cat (.cat (.int .i64) (.cat (.int .i64) .nil)) (.cat (.sl (.cat (.int .i64) (.cat (.int .i64) .nil))) .nil)) r) : ∃ g : Po, r = g.cells ∧ InK w g := by
  obtain ⟨p, q, rfl, ⟨p1, q1, rfl, ⟨a, rfl, ha⟩, ⟨p2, q2, rfl, ⟨c, rfl, hc⟩, rfl⟩⟩, ⟨p3, q3, rfl, h4, rfl⟩⟩ := h
  obtain ⟨A, n, k, rows, rfl, h1, h2, h3, h5, h6⟩ := _root_.id h4
  obtain ⟨L, rfl, _, _, hs, hq⟩ := rd_rowsP (f := Lg.cells) (fun r => rd_ltrowH) h4
  exact ⟨⟨a, c, A, L.length, k⟩, rfl, ⟨bd_i64 ha, bd_i64 hc⟩, L, rfl, h1, h2, hs, hq⟩
def KeysH (cs : List Pc) : Prop := ∀ c ∈ cs, In64 c.ac ∧ In64 c.cl
def GIK (w : World) (l : List Iq) : Prop := ∀ g ∈ l, ∃ i : Ins, GI w g i ∧ i.mv.length ≤ 9 ∧ okB i = true
theorem GIK.below {w w' : World} {l : List Iq} (h : GIK w l) (hb : Below w.heap.size w w') : GIK w' l := fun g hg => by
  obtain ⟨i, hi, hl⟩ := h g hg
  exact ⟨i, hi.below hb, hl⟩
theorem GIK.tab {w : World} : ∀ {l : List Iq}, GIK w l → ∃ is : List Ins, InTab w l is ∧ ∀ i ∈ is, i.mv.length ≤ 9 ∧ okB i = true
  | [], _ => ⟨[], InTab.nil w, fun i h => by cases h⟩
  | g :: l, h => by
    obtain ⟨is, ht, hl⟩ := GIK.tab (l := l) fun x hx => h x (List.mem_cons_of_mem _ hx)
    obtain ⟨i, hi, h9⟩ := h g List.mem_cons_self
    refine ⟨i :: is, InTab.cons hi ht, fun x hx => ?_⟩
    rcases List.mem_cons.1 hx with rfl | hx
    · exact h9
    · exact hl x hx
end Go.Proofs.YtahdmomadbbhoaaGreat
end
