/-
  The walks of layer 23, thirteenth part: Of; the document's Late, Of, Same.
-/
import Derived.Test.YtaaknohoaijfhaaGive12
namespace Go.Proofs.Ytaaknohoaijfhaa
open Go.ChangeShapes Go.WideShapes Go.ChangeAt Go.RowKit
set_option linter.unusedVariables false
set_option linter.unusedSimpArgs false

def ofL (l : List Gv) (ua uc : Int) : List Int := (l.filter fun g => g.st == 1 && ofB ua uc g).map (·.id)
theorem ofL_length (l : List Gv) (ua uc : Int) : (ofL l ua uc).length ≤ l.length := by unfold ofL; simp; exact List.length_filter_le _ _
theorem ofL_take (l : List Gv) (ua uc : Int) (k : Nat) (h : k < l.length) : ofL (l.take (k + 1)) ua uc = ofL (l.take k) ua uc ++ (if (l[k].st == 1 && ofB ua uc l[k]) = true then [l[k].id] else []) := by
  unfold ofL
  rw [take_snoc l k h, List.filter_append, List.map_append]
  congr 1
  cases hq : (l[k].st == 1 && ofB ua uc l[k]) <;> simp [List.filter_cons, hq]

set_option maxHeartbeats 2000000 in
theorem pendOf_any (A : Option Addr) (cap : Nat) (l : List Gv) (c : Nat) (ua uc : Int) (w : World) (hl : l.length ≤ 1000) (hs : Sl w A (gcells l)) (hc : w.cell? ⟨c, 0, none⟩ = some (.int .i64 ua)) (hc2 : w.cell? ⟨c, 1, none⟩ = some (.int .i64 uc)) :
    Calls Try.prog 48 #[.slice A l.length cap, .func (.func 50) #[] #[.pointer (some ⟨c, 0, none⟩)]] w fun e w' => (∃ A' c', e = .returned (.slice A' (ofL l ua uc).length c') ∧ Sl w' A' (ints .i64 (ofL l ua uc))) ∧ Below w.heap.size w w' := by
  have hlt := World.block_lt_of_cell? _ _ hc
  go_enter Try.func48, Try.ntmps48
  go_wp2
  go_loopw [5, 10] (fun v i wr => ∃ k : Nat, k ≤ l.length ∧ i = .int .i64 k ∧ (∃ A' c', v = .slice A' (ofL (l.take k) ua uc).length c' ∧ wr.ownsRow w.heap.size 3 1 (.slice A' (ofL (l.take k) ua uc).length c') (ofL (l.take k) ua uc).length (ints .i64 (ofL (l.take k) ua uc))) ∧ Below w.heap.size w wr) (fun _ i _ => l.length - (intOf i).toNat)
  case atStart => exact ⟨0, by omega, rfl, ⟨none, 0, rfl, own_nil _ _ _⟩, Below.refl _ _⟩
  case round =>
    obtain ⟨k, hk, rfl, ⟨A', c', rfl, hown⟩, hB⟩ := hrel
    by_cases hlt2 : k < l.length
    · obtain ⟨b, o, rfl, hbw, hg⟩ := hs.give hlt2
      have hg1 := hg.keep (w' := wr) fun i => hB.cell (p := ⟨b, i, none⟩) hbw
      obtain ⟨g0, g1, g2, g3, g4, g5, g6, g7, g8, g9, g10⟩ := hg1
      have hbr : b < wr.heap.size := Nat.lt_of_lt_of_le hbw hB.size
      have hcr := (hB.cell (p := ⟨c, 0, none⟩) hlt).trans hc
      have hcr2 := (hB.cell (p := ⟨c, 1, none⟩) hlt).trans hc2
      have HT := Lib.hid (ofL_take l ua uc k hlt2)
      have hq1000 : (ofL (l.take k) ua uc).length ≤ 1000 := Nat.le_trans (ofL_length (l.take k) ua uc) (by simp; omega)
      generalize l[k] = g at *
      generalize ofL (l.take k) ua uc = q at *
      have hcs := @cell_set
      cases hq1 : (g.st == 1) with
      | false =>
        have HQ := Lib.hid (show (g.st == 1 && ofB ua uc g) = false by rw [hq1]; rfl)
        go_wp2_with fail
        go_roundw
        case rel =>
          refine ⟨k + 1, by omega, by go_num, ?_, ?_⟩
          · rw [HT.out, HQ.out]
            simp only [Bool.false_eq_true, if_false, List.append_nil]
            exact ⟨A', c', rfl, hown.alloc _⟩
          · exact since_alloc hB _
        case measure => simp [intOf]; omega
      | true =>
        have hst : g.st = 1 := by simpa using hq1
        clear hq1
        have HST := Lib.hid hst
        rw [hst] at g10
        clear hst
        cases hq2 : ofB ua uc g with
        | false =>
          have HQ := Lib.hid (show (g.st == 1 && ofB ua uc g) = false by rw [hq2]; simp)
          have HQ2 := Lib.hid hq2
          go_wp2_with fail
          refine (isOf_any { g with st := 1 } c ua uc _ ((World.cell?_alloc_lt wr _ ⟨c, 0, none⟩ (Nat.lt_of_lt_of_le hlt hB.size)).trans hcr) ((World.cell?_alloc_lt wr _ ⟨c, 1, none⟩ (Nat.lt_of_lt_of_le hlt hB.size)).trans hcr2)).mono ?_
          rintro e w1 ⟨rfl, hb1⟩
          have hB1 := since_step (since_alloc hB _) hb1
          have Bg := (Bk.new wr _ 43).below hb1
          have hown1 := own_below (hown.alloc _) hb1
          have hz1 := hb1.size
          simp only [World.size_alloc] at hz1
          clear hb1
          have e1 : ofB ua uc ({ g with st := 1 } : Gv) = false := HQ2.out
          rw [e1]
          clear e1
          go_wp2_with fail
          go_roundw
          case rel =>
            refine ⟨k + 1, by omega, by go_num, ?_, hB1⟩
            rw [HT.out, HQ.out]
            simp only [Bool.false_eq_true, if_false, List.append_nil]
            exact ⟨A', c', rfl, hown1⟩
          case measure => simp [intOf]; omega
        | true =>
          have HQ := Lib.hid (show (g.st == 1 && ofB ua uc g) = true by rw [hq2, HST.out]; rfl)
          have HQ2 := Lib.hid hq2
          go_wp2_with fail
          refine (isOf_any { g with st := 1 } c ua uc _ ((World.cell?_alloc_lt wr _ ⟨c, 0, none⟩ (Nat.lt_of_lt_of_le hlt hB.size)).trans hcr) ((World.cell?_alloc_lt wr _ ⟨c, 1, none⟩ (Nat.lt_of_lt_of_le hlt hB.size)).trans hcr2)).mono ?_
          rintro e w1 ⟨rfl, hb1⟩
          have hB1 := since_step (since_alloc hB _) hb1
          have Bg := (Bk.new wr _ 43).below hb1
          have hown1 := own_below (hown.alloc _) hb1
          have hz1 := hb1.size
          simp only [World.size_alloc] at hz1
          clear hb1
          have e1 : ofB ua uc ({ g with st := 1 } : Gv) = true := HQ2.out
          rw [e1]
          clear e1
          obtain ⟨lb, cb⟩ := _root_.id Bg
          have q0 := cb 0
          simp at q0
          clear cb
          go_wp2_with (first
            | (at_builtin; refine wpList_app rfl (.tmp 22) (.tmp 25) rfl EI rfl rfl (hown1.alloc _) (m := 1) (news := ints .i64 [g.id]) rfl (Sl.new_ _ _ _) (ints_one _ _) (by unfold maxLen; omega) (by omega) (by have := hB.size; simp; omega) ?_; intro A2 c2 w2 hown2 hg2 hb2)
            | fail)
          go_roundw
          case rel =>
            refine ⟨k + 1, by omega, by go_num, ?_, (since_alloc hB1 _).trans hb2⟩
            rw [HT.out, HQ.out]
            simp only [if_true, List.length_append, List.length_singleton]
            exact ⟨A2, c2, rfl, by simpa [ints] using hown2⟩
          case measure => simp [intOf]; omega
    · have hkl : k = l.length := by omega
      subst hkl
      rw [List.take_length] at hown ⊢
      go_wp2
      go_ret
      exact ⟨⟨A', c', rfl, Sl.of_own hown⟩, hB⟩

set_option maxHeartbeats 1000000 in
theorem of_any (A : Option Addr) (cap : Nat) (l : List Gv) (ua uc : Int) (w : World) (hl : l.length ≤ 1000) (hs : Sl w A (gcells l)) :
    Calls Try.prog 33 #[.slice A l.length cap, .agg #[.int .i64 ua, .int .i64 uc]] w fun e w' => (∃ A' c', e = .returned (.slice A' (ofL l ua uc).length c') ∧ Sl w' A' (ints .i64 (ofL l ua uc))) ∧ Below w.heap.size w w' := by
  go_enter Try.func33, Try.ntmps33
  go_wp2_with fail
  refine (pendOf_any A cap l w.heap.size ua uc _ hl (hs.alloc _) (by simp) (by simp)).mono ?_
  rintro e w1 ⟨⟨A1, c1, rfl, hs1⟩, hb1⟩
  have hB1 := since_step (since_alloc (Below.refl _ _) _) hb1
  clear hb1
  go_wp2_with fail
  go_ret
  exact ⟨⟨A1, c1, rfl, hs1⟩, hB1⟩

set_option maxHeartbeats 2000000 in
theorem rlate_any (A : Option Addr) (cap : Nat) (l : List Gv) (day : Int) (w : World) (hl : l.length ≤ 1000) (hs : Sl w A (gcells l)) :
    Calls Try.prog 32 #[.slice A l.length cap, .int .i64 day] w fun e w' => (∃ A' c', e = .returned (.slice A' (lateL l day).length c') ∧ Sl w' A' (ints .i64 (lateL l day))) ∧ Below w.heap.size w w' := by
  go_enter Try.func32, Try.ntmps32
  go_wp2
  go_loopw [5, 6] (fun v i wr => ∃ k : Nat, k ≤ l.length ∧ i = .int .i64 k ∧ (∃ A' c', v = .slice A' (lateL (l.take k) day).length c' ∧ wr.ownsRow w.heap.size 3 1 (.slice A' (lateL (l.take k) day).length c') (lateL (l.take k) day).length (ints .i64 (lateL (l.take k) day))) ∧ Below w.heap.size w wr) (fun _ i _ => l.length - (intOf i).toNat)
  case atStart => exact ⟨0, by omega, rfl, ⟨none, 0, rfl, own_nil _ _ _⟩, Below.refl _ _⟩
  case round =>
    obtain ⟨k, hk, rfl, ⟨A', c', rfl, hown⟩, hB⟩ := hrel
    by_cases hlt2 : k < l.length
    · obtain ⟨b, o, rfl, hbw, hg⟩ := hs.give hlt2
      have hg1 := hg.keep (w' := wr) fun i => hB.cell (p := ⟨b, i, none⟩) hbw
      obtain ⟨g0, g1, g2, g3, g4, g5, g6, g7, g8, g9, g10⟩ := hg1
      have hbr : b < wr.heap.size := Nat.lt_of_lt_of_le hbw hB.size
      have HT := Lib.hid (lateL_take l day k hlt2)
      have hq1000 : (lateL (l.take k) day).length ≤ 1000 := Nat.le_trans (lateL_length (l.take k) day) (by simp; omega)
      generalize l[k] = g at *
      generalize lateL (l.take k) day = q at *
      cases hq1 : (g.st == 1) with
      | false =>
        have HQ := Lib.hid (show (g.st == 1 && decide (g.day < day)) = false by rw [hq1]; rfl)
        go_wp2
        go_roundw
        case rel =>
          refine ⟨k + 1, by omega, by go_num, ?_, hB⟩
          rw [HT.out, HQ.out]
          simp only [Bool.false_eq_true, if_false, List.append_nil]
          exact ⟨A', c', rfl, hown⟩
        case measure => simp [intOf]; omega
      | true =>
        cases hq2 : decide (g.day < day) with
        | false =>
          have HQ := Lib.hid (show (g.st == 1 && decide (g.day < day)) = false by rw [hq2]; simp)
          go_wp2
          go_roundw
          case rel =>
            refine ⟨k + 1, by omega, by go_num, ?_, hB⟩
            rw [HT.out, HQ.out]
            simp only [Bool.false_eq_true, if_false, List.append_nil]
            exact ⟨A', c', rfl, hown⟩
          case measure => simp [intOf]; omega
        | true =>
          have HQ := Lib.hid (show (g.st == 1 && decide (g.day < day)) = true by rw [hq2, hq1]; rfl)
          go_wp2_with (first
            | (at_builtin; refine wpList_app rfl (.tmp 28) (.tmp 34) rfl EI rfl rfl (hown.alloc _) (m := 1) (news := ints .i64 [g.id]) rfl (Sl.new_ _ _ _) (ints_one _ _) (by unfold maxLen; omega) (by omega) (by have := hB.size; simp; omega) ?_; intro A2 c2 w2 hown2 hg2 hb2)
            | fail)
          go_roundw
          case rel =>
            refine ⟨k + 1, by omega, by go_num, ?_, (since_alloc hB _).trans hb2⟩
            rw [HT.out, HQ.out]
            simp only [if_true, List.length_append, List.length_singleton]
            exact ⟨A2, c2, rfl, by simpa [ints] using hown2⟩
          case measure => simp [intOf]; omega
    · have hkl : k = l.length := by omega
      subst hkl
      rw [List.take_length] at hown ⊢
      go_wp2
      go_ret
      exact ⟨⟨A', c', rfl, Sl.of_own hown⟩, hB⟩

set_option maxHeartbeats 1000000 in
theorem rsame_any (A B : Option Addr) (ca cb : Nat) (l : List Gv) (w : World) (hl : l.length ≤ 1000000) (hs : Sl w A (gcells l)) (ht : Sl w B (gcells l)) :
    Calls Try.prog 25 #[.slice A l.length ca, .slice B l.length cb] w fun e w' => e = .returned (.bool true) ∧ Below w.heap.size w w' := by
  go_enter Try.func25, Try.ntmps25
  go_wp2
  go_loopw [5] (fun i wr => ∃ k : Nat, k ≤ l.length ∧ i = .int .i64 k ∧ Below w.heap.size w wr) (fun i _ => l.length - (intOf i).toNat)
  case atStart => exact ⟨0, by omega, rfl, Below.refl _ _⟩
  case round =>
    obtain ⟨k, hk, rfl, hB⟩ := hrel
    by_cases hlt : k < l.length
    · obtain ⟨b1, o1, rfl, hb1w, hg1⟩ := hs.give hlt
      have hg1 := hg1.keep (w' := wr) fun i => hB.cell (p := ⟨b1, i, none⟩) hb1w
      have hb1r : b1 < wr.heap.size := Nat.lt_of_lt_of_le hb1w hB.size
      obtain ⟨b2, o2, rfl, hb2w, hg2⟩ := ht.give hlt
      have hg2 := hg2.keep (w' := wr) fun i => hB.cell (p := ⟨b2, i, none⟩) hb2w
      have hb2r : b2 < wr.heap.size := Nat.lt_of_lt_of_le hb2w hB.size
      generalize l[k] = y at *
      obtain ⟨p0, p1, p2, p3, p4, p5, p6, p7, p8, p9, p10⟩ := hg1
      obtain ⟨q0, q1, q2, q3, q4, q5, q6, q7, q8, q9, q10⟩ := hg2
      go_wp2
      go_quiet (fail)
      go_wp2
      go_roundw
      case rel => exact ⟨k + 1, by omega, by go_num, below_drewN hB _⟩
      case measure => simp [intOf]; omega
    · go_wp2
      go_ret
      exact ⟨rfl, hB⟩
end Go.Proofs.Ytaaknohoaijfhaa
