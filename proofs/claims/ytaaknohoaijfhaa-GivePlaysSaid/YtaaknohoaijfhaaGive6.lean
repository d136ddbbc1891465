/-
  The walks of layer 23, sixth part: Late, SameIds.
-/
import Derived.Test.YtaaknohoaijfhaaGive5
namespace Go.Proofs.Ytaaknohoaijfhaa
open Go.ChangeShapes Go.WideShapes Go.ChangeAt Go.RowKit
set_option linter.unusedVariables false
set_option linter.unusedSimpArgs false

theorem EI : Elem Try.prog 59 3 1 8 := Elem.mk' (z := .int .i64 0) (by kernel_rfl) (by kernel_rfl) (by decide) (by decide)

set_option maxHeartbeats 1000000 in
theorem isLate_any (g : Gv) (c : Nat) (day : Int) (w : World) (hc : w.cell? ⟨c, 0, none⟩ = some (.int .i64 day)) :
    Calls Try.prog 49 #[g.val, .pointer (some ⟨c, 0, none⟩)] w fun e w' => e = .returned (.bool (decide (g.day < day))) ∧ Below w.heap.size w w' := by
  have hlt := World.block_lt_of_cell? _ _ hc
  unfold Gv.val
  go_enter Try.func49, Try.ntmps49
  go_wp2
  go_ret
  refine ⟨rfl, ?_⟩
  repeat' (first | with_reducible exact Below.refl _ _ | with_reducible refine Below.setCell ?_ ?_ _ | with_reducible refine Below.alloc ?_ ?_ _)
  all_goals first | (simp; done) | (simp; omega)

def lateL (l : List Gv) (day : Int) : List Int := (l.filter fun g => g.st == 1 && decide (g.day < day)).map (·.id)
theorem lateL_length (l : List Gv) (day : Int) : (lateL l day).length ≤ l.length := by unfold lateL; simp; exact List.length_filter_le _ _
theorem lateL_take (l : List Gv) (day : Int) (k : Nat) (h : k < l.length) : lateL (l.take (k + 1)) day = lateL (l.take k) day ++ (if (l[k].st == 1 && decide (l[k].day < day)) = true then [l[k].id] else []) := by
  unfold lateL
  rw [take_snoc l k h, List.filter_append, List.map_append]
  congr 1
  cases hq : (l[k].st == 1 && decide (l[k].day < day)) <;> simp [List.filter_cons, hq]

theorem own_below {w w' : World} {B e size n : Nat} {v : Value} {xs : List Value} (h : w.ownsRow B e size v n xs) (hb : Below w.heap.size w w') : w'.ownsRow B e size v n xs := by
  obtain ⟨h1, h2⟩ := h
  refine ⟨h1, ?_⟩
  rcases h2 with h2 | ⟨g, cap, cur, hv, hg, hh, hr⟩
  · exact .inl h2
  · refine .inr ⟨g, cap, cur, hv, hg, ?_, hr⟩
    have hlt : g < w.heap.size := by
      rcases Nat.lt_or_ge g w.heap.size with hlt | hge
      · exact hlt
      · rw [Array.getElem?_eq_none hge] at hh; cases hh
    rw [hb.block g hlt]
    exact hh

set_option maxHeartbeats 2000000 in
theorem pendLate_any (A : Option Addr) (cap : Nat) (l : List Gv) (c : Nat) (day : Int) (w : World) (hl : l.length ≤ 1000) (hs : Sl w A (gcells l)) (hc : w.cell? ⟨c, 0, none⟩ = some (.int .i64 day)) :
    Calls Try.prog 48 #[.slice A l.length cap, .func (.func 49) #[] #[.pointer (some ⟨c, 0, none⟩)]] w fun e w' => (∃ A' c', e = .returned (.slice A' (lateL l day).length c') ∧ Sl w' A' (ints .i64 (lateL l day))) ∧ Below w.heap.size w w' := by
  have hlt := World.block_lt_of_cell? _ _ hc
  go_enter Try.func48, Try.ntmps48
  go_wp2
  go_loopw [5, 10] (fun v i wr => ∃ k : Nat, k ≤ l.length ∧ i = .int .i64 k ∧ (∃ A' c', v = .slice A' (lateL (l.take k) day).length c' ∧ wr.ownsRow w.heap.size 3 1 (.slice A' (lateL (l.take k) day).length c') (lateL (l.take k) day).length (ints .i64 (lateL (l.take k) day))) ∧ Below w.heap.size w wr) (fun _ i _ => l.length - (intOf i).toNat)
  case atStart => exact ⟨0, by omega, rfl, ⟨none, 0, rfl, own_nil _ _ _⟩, Below.refl _ _⟩
  case round =>
    obtain ⟨k, hk, rfl, ⟨A', c', rfl, hown⟩, hB⟩ := hrel
    by_cases hlt2 : k < l.length
    · obtain ⟨b, o, rfl, hbw, hg⟩ := hs.give hlt2
      have hg1 := hg.keep (w' := wr) fun i => hB.cell (p := ⟨b, i, none⟩) hbw
      obtain ⟨g0, g1, g2, g3, g4, g5, g6, g7, g8, g9, g10⟩ := hg1
      have hbr : b < wr.heap.size := Nat.lt_of_lt_of_le hbw hB.size
      have hcr := (hB.cell (p := ⟨c, 0, none⟩) hlt).trans hc
      have HT := Lib.hid (lateL_take l day k hlt2)
      have hq1000 : (lateL (l.take k) day).length ≤ 1000 := Nat.le_trans (lateL_length (l.take k) day) (by simp; omega)
      generalize l[k] = g at *
      generalize lateL (l.take k) day = q at *
      have hcs := @cell_set
      cases hq1 : (g.st == 1) with
      | false =>
        have HQ := Lib.hid (show (g.st == 1 && decide (g.day < day)) = false by rw [hq1]; rfl)
        go_wp2_with fail
        go_roundw
        case rel =>
          refine ⟨k + 1, by omega, by go_num, ?_, ?_⟩
          · rw [HT.out, HQ.out]
            simp only [Bool.false_eq_true, if_false, List.append_nil]
            exact ⟨A', c', rfl, hown.alloc _⟩
          · exact since_alloc hB _
        case measure => simp [intOf]; omega
      | true =>
        have hst : g.st = 1 := by simpa using hq1
        clear hq1
        have HST := Lib.hid hst
        rw [hst] at g10
        clear hst
        cases hq2 : decide (g.day < day) with
        | false =>
          have HQ := Lib.hid (show (g.st == 1 && decide (g.day < day)) = false by rw [hq2]; simp)
          have HQ2 := Lib.hid hq2
          go_wp2_with fail
          refine (isLate_any { g with st := 1 } c day _ ((World.cell?_alloc_lt wr _ ⟨c, 0, none⟩ (Nat.lt_of_lt_of_le hlt hB.size)).trans hcr)).mono ?_
          rintro e w1 ⟨rfl, hb1⟩
          have hB1 := since_step (since_alloc hB _) hb1
          have Bg := (Bk.new wr _ 43).below hb1
          have hown1 := own_below (hown.alloc _) hb1
          have hz1 := hb1.size
          simp only [World.size_alloc] at hz1
          clear hb1
          have e1 : decide (({ g with st := 1 } : Gv).day < day) = false := HQ2.out
          rw [e1]
          clear e1
          go_wp2_with fail
          go_roundw
          case rel =>
            refine ⟨k + 1, by omega, by go_num, ?_, hB1⟩
            rw [HT.out, HQ.out]
            simp only [Bool.false_eq_true, if_false, List.append_nil]
            exact ⟨A', c', rfl, hown1⟩
          case measure => simp [intOf]; omega
        | true =>
          have HQ := Lib.hid (show (g.st == 1 && decide (g.day < day)) = true by rw [hq2, HST.out]; rfl)
          have HQ2 := Lib.hid hq2
          go_wp2_with fail
          refine (isLate_any { g with st := 1 } c day _ ((World.cell?_alloc_lt wr _ ⟨c, 0, none⟩ (Nat.lt_of_lt_of_le hlt hB.size)).trans hcr)).mono ?_
          rintro e w1 ⟨rfl, hb1⟩
          have hB1 := since_step (since_alloc hB _) hb1
          have Bg := (Bk.new wr _ 43).below hb1
          have hown1 := own_below (hown.alloc _) hb1
          have hz1 := hb1.size
          simp only [World.size_alloc] at hz1
          clear hb1
          have e1 : decide (({ g with st := 1 } : Gv).day < day) = true := HQ2.out
          rw [e1]
          clear e1
          obtain ⟨lb, cb⟩ := _root_.id Bg
          have q0 := cb 0
          simp at q0
          clear cb
          go_wp2_with (first
            | (at_builtin; refine wpList_app rfl (.tmp 22) (.tmp 25) rfl EI rfl rfl (hown1.alloc _) (m := 1) (news := ints .i64 [g.id]) rfl (Sl.new_ _ _ _) (ints_one _ _) (by unfold maxLen; omega) (by omega) (by have := hB.size; simp; omega) ?_; intro A2 c2 w2 hown2 hg2 hb2)
            | fail)
          go_roundw
          case rel =>
            refine ⟨k + 1, by omega, by go_num, ?_, (since_alloc hB1 _).trans hb2⟩
            rw [HT.out, HQ.out]
            simp only [if_true, List.length_append, List.length_singleton]
            exact ⟨A2, c2, rfl, by simpa [ints] using hown2⟩
          case measure => simp [intOf]; omega
    · have hkl : k = l.length := by omega
      subst hkl
      rw [List.take_length] at hown ⊢
      go_wp2
      go_ret
      exact ⟨⟨A', c', rfl, Sl.of_own hown⟩, hB⟩

set_option maxHeartbeats 1000000 in
theorem late_any (A : Option Addr) (cap : Nat) (l : List Gv) (day : Int) (w : World) (hl : l.length ≤ 1000) (hs : Sl w A (gcells l)) :
    Calls Try.prog 31 #[.slice A l.length cap, .int .i64 day] w fun e w' => (∃ A' c', e = .returned (.slice A' (lateL l day).length c') ∧ Sl w' A' (ints .i64 (lateL l day))) ∧ Below w.heap.size w w' := by
  go_enter Try.func31, Try.ntmps31
  go_wp2_with fail
  refine (pendLate_any A cap l w.heap.size day _ hl (hs.alloc _) (by simp)).mono ?_
  rintro e w1 ⟨⟨A1, c1, rfl, hs1⟩, hb1⟩
  have hB1 := since_step (since_alloc (Below.refl _ _) _) hb1
  clear hb1
  go_wp2_with fail
  go_ret
  exact ⟨⟨A1, c1, rfl, hs1⟩, hB1⟩
end Go.Proofs.Ytaaknohoaijfhaa
