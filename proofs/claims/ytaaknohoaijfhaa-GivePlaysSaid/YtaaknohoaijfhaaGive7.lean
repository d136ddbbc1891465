/-
  The walks of layer 23, seventh part: SameIds, lives.
-/
import Derived.Test.YtaaknohoaijfhaaGive6
namespace Go.Proofs.Ytaaknohoaijfhaa
open Go.ChangeShapes Go.WideShapes Go.ChangeAt Go.RowKit
set_option linter.unusedVariables false
set_option linter.unusedSimpArgs false

theorem list_eq_of {α : Type} {a b : List α} (hl : a.length = b.length) (h : ∀ j, (h1 : j < a.length) → (h2 : j < b.length) → a[j] = b[j]) : a = b := List.ext_getElem hl fun j h1 h2 => h j h1 h2

set_option maxHeartbeats 1000000 in
theorem sameIds_any (A B : Option Addr) (ca cb : Nat) (a b : List Int) (w : World) (ha : a.length ≤ 1000000) (hs : Sl w A (ints .i64 a)) (ht : Sl w B (ints .i64 b)) :
    Calls Try.prog 30 #[.slice A a.length ca, .slice B b.length cb] w fun e w' => e = .returned (.bool (decide (a = b))) ∧ Below w.heap.size w w' := by
  go_enter Try.func30, Try.ntmps30
  by_cases hlen : a.length = b.length
  · rw [← hlen]
    go_wp2
    go_loopw [5] (fun i wr => ∃ k : Nat, k ≤ a.length ∧ i = .int .i64 k ∧ (∀ j, (h1 : j < a.length) → (h2 : j < b.length) → j < k → a[j] = b[j]) ∧ Below w.heap.size w wr) (fun i _ => a.length - (intOf i).toNat)
    case atStart => exact ⟨0, by omega, rfl, fun j _ _ h => absurd h (by omega), Below.refl _ _⟩
    case round =>
      obtain ⟨k, hk, rfl, hno, hB⟩ := hrel
      by_cases hlt : k < a.length
      · have hlt2 : k < b.length := by omega
        obtain ⟨b1, o1, rfl, hz1⟩ := hs.int hlt
        obtain ⟨b2, o2, rfl, hz2⟩ := ht.int hlt2
        have hb1 : b1 < w.heap.size := World.block_lt_of_cell? _ _ hz1
        have hb2 : b2 < w.heap.size := World.block_lt_of_cell? _ _ hz2
        have hd1 := (hB.cell (p := ⟨b1, o1 + k, none⟩) hb1).trans hz1
        have hd2 := (hB.cell (p := ⟨b2, o2 + k, none⟩) hb2).trans hz2
        by_cases he : a[k] = b[k]
        · rw [← he] at hd2
          go_wp2
          go_quiet (fail)
          go_wp2
          go_roundw
          case rel =>
            refine ⟨k + 1, by omega, by go_num, fun j h1 h2 hj => ?_, by first | exact hB | exact below_drewN hB _⟩
            rcases Nat.lt_or_ge j k with h | h
            · exact hno j h1 h2 h
            · obtain rfl : j = k := by omega
              exact he
          case measure => simp [intOf]; omega
        · have hne : (a[k] != b[k]) = true := by simpa using he
          go_wp2
          go_quiet (fail)
          go_wp2
          all_goals go_ret
          all_goals exact ⟨retB (by rw [decide_eq_false]; intro e; exact he (by simp only [e])), by first | exact hB | exact below_drewN hB _⟩
      · go_wp2
        all_goals go_ret
        all_goals exact ⟨retB (by rw [decide_eq_true]; exact list_eq_of hlen fun j h1 h2 => hno j h1 h2 (by omega)), hB⟩
  · go_wp2
    all_goals go_ret
    all_goals exact ⟨retB (by rw [decide_eq_false]; intro e; exact hlen (by rw [e])), Below.refl _ _⟩

def g0 : Gv := ⟨0, 1, 0, 2, 0, 1, 5, 0, 0, 0, 0⟩
set_option maxHeartbeats 2000000 in
theorem lives23_any (w : World) :
    Calls Try.prog 35 #[] w fun e w' => e = .returned (.bool true) ∧ Below w.heap.size w w' := by
  go_enter Try.func35, Try.ntmps35
  go_wp2_with fail
  have step := new_any none 0 [] g0 3 (w.alloc (.cells g0.cells.toArray 43)) (GL.nil _)
  refine step.mono ?_
  rintro e w1 ⟨hr, hb1⟩
  rcases hr with ⟨hne, _⟩ | ⟨_, A1, c1, rfl, hc1, hs1⟩
  · exact absurd (by decide) hne
  have hB1 := since_step (since_alloc (Below.refl _ w) _) hb1
  have hL1 : GL w1 A1 c1 ([] ++ [newG [] g0 3]) := GL.new (by decide) (fun k h => by simp at h) hc1 hs1
  clear hb1 step hs1 hc1
  generalize hl1 : [] ++ [newG [] g0 3] = l1 at *
  have hlen1 : l1.length = 1 := by rw [← hl1]; rfl
  have hT1 : turnE l1 1 2 = 0 := by rw [← hl1]; decide
  have hT2 : turnE (turnL l1 1 2) 1 4 = 13 := by rw [← hl1]; decide
  have hA1 : lateL l1 12 = [1] := by rw [← hl1]; decide
  have hA2 : lateL l1 11 = [] := by rw [← hl1]; decide
  have HA1 := Lib.hid hA1
  have HA2 := Lib.hid hA2
  have HT1 := Lib.hid hT1
  have HT2 := Lib.hid hT2
  have HLEN := Lib.hid hlen1
  clear hA1 hA2 hT1 hT2 hl1 hlen1
  go_wp2_with fail
  have step2 := turn_any A1 c1 l1 1 2 w1 (by rw [HLEN.out]; omega) hL1.2.2.2.2
  rw [HLEN.out] at step2
  refine step2.mono ?_
  rintro e w2 ⟨hr, hb2⟩
  rcases hr with ⟨hne, _⟩ | ⟨_, A2, c2, rfl, hc2, hs2⟩
  · exact absurd HT1.out hne
  have hB2 := since_step hB1 hb2
  have hL2 := hL1.below hb2
  have hs3 := hs2
  clear hb2 step2
  go_wp2_with fail
  have step3 := turn_any A2 c2 (turnL l1 1 2) 1 4 w2 (by unfold turnL; simp [HLEN.out]) hs2
  rw [show (turnL l1 1 2).length = 1 by unfold turnL; simp [HLEN.out]] at step3
  refine step3.mono ?_
  rintro e w3 ⟨hr, hb3⟩
  rcases hr with ⟨hne, rfl⟩ | ⟨he, _⟩
  rotate_left
  · rw [HT2.out] at he; exact absurd he (by decide)
  rw [HT2.out]
  have hB3 := since_step hB2 hb3
  have hL3 := hL2.below hb3
  clear hb3 step3 hne
  go_wp2_with fail
  have step4 := late_any A1 c1 l1 12 w3 (by rw [HLEN.out]; omega) hL3.2.2.2.2
  rw [HLEN.out, HA1.out] at step4
  refine step4.mono ?_
  rintro e w4 ⟨⟨A4, c4, rfl, hs4⟩, hb4⟩
  have hB4 := since_step hB3 hb4
  have hL4 := hL3.below hb4
  clear hb4 step4
  go_wp2_with fail
  have step5 := sameIds_any A4 (some ⟨w4.heap.size, 0, none⟩) c4 1 [1] [1] (w4.alloc (.cells (ints .i64 [1]).toArray 3)) (by simp) (hs4.alloc _) (Sl.new_ _ _ _)
  refine step5.mono ?_
  rintro e w5 ⟨rfl, hb5⟩
  have hB5 := since_step (since_alloc hB4 _) hb5
  have hL5 := (hL4.below ((Below.refl _ _).alloc (Nat.le_refl _) _)).below hb5
  clear hb5 step5
  go_wp2_with fail
  have step6 := late_any A1 c1 l1 11 w5 (by rw [HLEN.out]; omega) hL5.2.2.2.2
  rw [HLEN.out, HA2.out] at step6
  refine step6.mono ?_
  rintro e w6 ⟨⟨A6, c6, rfl, hs6⟩, hb6⟩
  have hB6 := since_step hB5 hb6
  clear hb6 step6
  go_wp2_with fail
  go_ret
  exact ⟨rfl, hB6⟩
end Go.Proofs.Ytaaknohoaijfhaa
