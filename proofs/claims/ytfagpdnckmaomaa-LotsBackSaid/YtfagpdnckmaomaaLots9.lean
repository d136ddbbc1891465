/-
  Layer 18, ninth part: Same of the document, Few, DeleteFunc that keeps another row (laid by gen_lots9.py).
-/
import Derived.Test.YtfagpdnckmaomaaLots8
namespace Go.Proofs.Ytfagpdnckmaomaa
open Go.ChangeShapes Go.WideShapes Go.ChangeAt Go.RowKit
set_option linter.unusedVariables false
set_option linter.unusedSimpArgs false
theorem list_eq_ofL {α : Type} {a b : List α} (hl : a.length = b.length) (h : ∀ j, (h1 : j < a.length) → (h2 : j < b.length) → a[j] = b[j]) : a = b := List.ext_getElem hl fun j h1 h2 => h j h1 h2
theorem few18_any (A : Option Addr) (cap : Nat) (l : List Lt) (w : World) (hc : l.length ≤ cap) (hcm : cap ≤ maxLen) (hs : Sl w A (rc Lt.cells l)) :
    Calls Try.prog 43 #[.slice A l.length cap] w fun e w' => e = .returned (.slice A (l.take 20).length cap) ∧ Below w.heap.size w w' := by
  by_cases h : 20 < l.length
  · have hl : (l.take 20).length = 20 := by simp; omega
    rw [hl]
    have h40 : 20 ≤ cap := by omega
    cases A with
    | none => obtain ⟨b, o, e, _⟩ := hs.lt (k := 0) (by omega); cases e
    | some ad =>
      go_enter Try.func43, Try.ntmps43
      go_wp2
      go_ret
      exact ⟨rfl, Below.refl _ _⟩
  · have hl : (l.take 20).length = l.length := by simp; omega
    rw [hl]
    go_enter Try.func43, Try.ntmps43
    go_wp2
    go_ret
    exact ⟨rfl, Below.refl _ _⟩

set_option maxHeartbeats 4000000 in
set_option maxRecDepth 100000 in
theorem rlsame_any (A A2 : Option Addr) (cap cap2 : Nat) (l m : List Lt) (w : World) (hl : l.length ≤ 1000000) (hs : Sl w A (rc Lt.cells l)) (hs2 : Sl w A2 (rc Lt.cells m)) :
    Calls Try.prog 54 #[.slice A l.length cap, .slice A2 m.length cap2] w fun e w' => e = .returned (.bool (decide (l = m))) ∧ Below w.heap.size w w' := by
  by_cases hlen : l.length = m.length
  · go_enter Try.func54, Try.ntmps54
    rw [← hlen]
    have HLM := Lib.hid hlen
    clear hlen
    go_wp2_with fail
    go_loopw [5] (fun i wr => ∃ k : Nat, k ≤ l.length ∧ i = .int .i64 k ∧ (∀ j, (h1 : j < l.length) → (h2 : j < m.length) → j < k → l[j] = m[j]) ∧ Below w.heap.size w wr) (fun i _ => l.length - (intOf i).toNat)
    case atStart => exact ⟨0, by omega, rfl, fun j _ _ h => absurd h (by omega), Below.refl _ _⟩
    case round =>
      obtain ⟨k, hk, rfl, hno, hB⟩ := hrel
      by_cases hlt : k < l.length
      · have hlt2 : k < m.length := by rw [← HLM.out]; exact hlt
        obtain ⟨b, o, rfl, hbw, hg⟩ := hs.lt hlt
        obtain ⟨b2, o2, rfl, hbw2, hg2⟩ := hs2.lt hlt2
        have hbr : b < wr.heap.size := Nat.lt_of_lt_of_le hbw hB.size
        have hbr2 : b2 < wr.heap.size := Nat.lt_of_lt_of_le hbw2 hB.size
        have hsz : w.heap.size ≤ wr.heap.size := hB.size
        have HK1 : Hid (∀ V, Below wr.heap.size wr V → l[k].at V b (o + k * 3)) := Lib.hid fun V hV =>
          Lt.at_keep hg fun i => (hV.cell (p := ⟨b, i, none⟩) hbr).trans (hB.cell (p := ⟨b, i, none⟩) hbw)
        have HK0 : Hid (∀ V, Below wr.heap.size wr V → m[k].at V b2 (o2 + k * 3)) := Lib.hid fun V hV =>
          Lt.at_keep hg2 fun i => (hV.cell (p := ⟨b2, i, none⟩) hbr2).trans (hB.cell (p := ⟨b2, i, none⟩) hbw2)
        have HX : Hid (if l[k] = m[k] then (∀ j, (h1 : j < l.length) → (h2 : j < m.length) → j < k + 1 → l[j] = m[j]) else decide (l = m) = false) := Lib.hid (by
          split
          · rename_i he
            intro j h1 h2 hj
            rcases Nat.lt_or_ge j k with h | h
            · exact hno j h1 h2 h
            · obtain rfl : j = k := by omega
              exact he
          · rename_i he
            rw [decide_eq_false]
            intro e
            subst e
            exact he rfl)
        have hlk : (k : Int) < (l.length : Int) := by omega
        clear hno hs hs2 hg hg2 hbw hbw2
        generalize l[k] = v at HK1 HX
        generalize m[k] = u at HK0 HX
        obtain ⟨f0, f1, f2⟩ := v
        obtain ⟨e0, e1, e2⟩ := u
        unfold Lt.at at HK1 HK0
        simp only at HK1 HK0
        by_cases d0 : f0 = e0
        · subst d0
          by_cases d1 : f1 = e1
          · subst d1
            by_cases d2 : f2 = e2
            · subst d2
              have HN : Hid (∀ j, (h1 : j < l.length) → (h2 : j < m.length) → j < k + 1 → l[j] = m[j]) := Lib.hid (by have := HX.out; rw [if_pos rfl] at this; exact this)
              clear HX
              go_wp2_with fail
              refine wp_region_held_drew (S := (fun V => Below wr.heap.size wr V)) (by kernel_rfl) (by exact (Below.refl _ _).drew) (fun hHeld => ?_)
              refine wpAnyH_take (i := 0) (oi := { dst := some 17, op := _, type := _, pos := _, after := _, guard := _ }) (v := ?_) rfl (by kernel_rfl) (by kernel_rfl) (by kernel_rfl) (fun _ _ _ h => h) (Or.inl ⟨by rfl, ?_⟩) hHeld ?_
              rotate_left
              · (intro w hSw; obtain ⟨g0, g1, g2⟩ := HK1.out _ hSw; obtain ⟨h0, h1, h2⟩ := HK0.out _ hSw; go_simp <;> with_reducible rfl)
              try simp only [Act.put, List.setIfInBounds_toArray, List.set_cons_zero, List.set_cons_succ]
              refine wpAnyH_take (i := 1) (oi := { dst := some 18, op := _, type := _, pos := _, after := _, guard := _ }) (v := ?_) rfl (by kernel_rfl) (by kernel_rfl) (by kernel_rfl) (fun _ _ _ h => h) (Or.inl ⟨by rfl, ?_⟩) hHeld ?_
              rotate_left
              · (intro w hSw; obtain ⟨g0, g1, g2⟩ := HK1.out _ hSw; obtain ⟨h0, h1, h2⟩ := HK0.out _ hSw; go_simp <;> with_reducible rfl)
              try simp only [Act.put, List.setIfInBounds_toArray, List.set_cons_zero, List.set_cons_succ]
              refine wpAnyH_take (i := 2) (oi := { dst := some 19, op := _, type := _, pos := _, after := _, guard := _ }) (v := ?_) rfl (by kernel_rfl) (by kernel_rfl) (by kernel_rfl) (fun _ _ _ h => h) (Or.inl ⟨by rfl, ?_⟩) hHeld ?_
              rotate_left
              · (intro w hSw; obtain ⟨g0, g1, g2⟩ := HK1.out _ hSw; obtain ⟨h0, h1, h2⟩ := HK0.out _ hSw; go_simp <;> with_reducible rfl)
              try simp only [Act.put, List.setIfInBounds_toArray, List.set_cons_zero, List.set_cons_succ]
              refine wpAnyH_take (i := 3) (oi := { dst := some 20, op := _, type := _, pos := _, after := _, guard := _ }) (v := ?_) rfl (by kernel_rfl) (by kernel_rfl) (by kernel_rfl) (fun _ _ _ h => h) (Or.inl ⟨by rfl, ?_⟩) hHeld ?_
              rotate_left
              · (intro w hSw; obtain ⟨g0, g1, g2⟩ := HK1.out _ hSw; obtain ⟨h0, h1, h2⟩ := HK0.out _ hSw; go_simp <;> with_reducible rfl)
              try simp only [Act.put, List.setIfInBounds_toArray, List.set_cons_zero, List.set_cons_succ]
              refine wpAnyH_take (i := 4) (oi := { dst := some 21, op := _, type := _, pos := _, after := _, guard := _ }) (v := ?_) rfl (by kernel_rfl) (by kernel_rfl) (by kernel_rfl) (fun _ _ _ h => h) (Or.inl ⟨by rfl, ?_⟩) hHeld ?_
              rotate_left
              · (intro w hSw; obtain ⟨g0, g1, g2⟩ := HK1.out _ hSw; obtain ⟨h0, h1, h2⟩ := HK0.out _ hSw; go_simp <;> with_reducible rfl)
              try simp only [Act.put, List.setIfInBounds_toArray, List.set_cons_zero, List.set_cons_succ]
              refine wpAnyH_take (i := 5) (oi := { dst := some 22, op := _, type := _, pos := _, after := _, guard := _ }) (v := ?_) rfl (by kernel_rfl) (by kernel_rfl) (by kernel_rfl) (fun _ _ _ h => h) (Or.inl ⟨by rfl, ?_⟩) hHeld ?_
              rotate_left
              · (intro w hSw; obtain ⟨g0, g1, g2⟩ := HK1.out _ hSw; obtain ⟨h0, h1, h2⟩ := HK0.out _ hSw; go_simp <;> with_reducible rfl)
              try simp only [Act.put, List.setIfInBounds_toArray, List.set_cons_zero, List.set_cons_succ]
              refine wpAnyH_take (i := 6) (oi := { dst := some 23, op := _, type := _, pos := _, after := _, guard := _ }) (v := ?_) rfl (by kernel_rfl) (by kernel_rfl) (by kernel_rfl) (fun _ _ _ h => h) (Or.inl ⟨by rfl, ?_⟩) hHeld ?_
              rotate_left
              · (intro w hSw; obtain ⟨g0, g1, g2⟩ := HK1.out _ hSw; obtain ⟨h0, h1, h2⟩ := HK0.out _ hSw; go_simp <;> with_reducible rfl)
              try simp only [Act.put, List.setIfInBounds_toArray, List.set_cons_zero, List.set_cons_succ]
              refine wpAnyH_take (i := 7) (oi := { dst := some 24, op := _, type := _, pos := _, after := _, guard := _ }) (v := ?_) rfl (by kernel_rfl) (by kernel_rfl) (by kernel_rfl) (fun _ _ _ h => h) (Or.inl ⟨by rfl, ?_⟩) hHeld ?_
              rotate_left
              · (intro w hSw; obtain ⟨g0, g1, g2⟩ := HK1.out _ hSw; obtain ⟨h0, h1, h2⟩ := HK0.out _ hSw; go_simp <;> with_reducible rfl)
              try simp only [Act.put, List.setIfInBounds_toArray, List.set_cons_zero, List.set_cons_succ]
              refine wpAnyH_take (i := 8) (oi := { dst := some 25, op := _, type := _, pos := _, after := _, guard := _ }) (v := ?_) rfl (by kernel_rfl) (by kernel_rfl) (by kernel_rfl) (fun _ _ _ h => h) (Or.inl ⟨by rfl, ?_⟩) hHeld ?_
              rotate_left
              · (intro w hSw; obtain ⟨g0, g1, g2⟩ := HK1.out _ hSw; obtain ⟨h0, h1, h2⟩ := HK0.out _ hSw; go_simp <;> with_reducible rfl)
              try simp only [Act.put, List.setIfInBounds_toArray, List.set_cons_zero, List.set_cons_succ]
              refine wpAnyH_done (by kernel_rfl) ?_ _
              have hB2 := hB.trans (hHeld.mono hsz)
              go_wp2_with fail
              go_roundw
              case rel => exact ⟨k + 1, by omega, by go_num, HN.out, hB2⟩
              case measure => simp [intOf]; omega
            · have HN : Hid (decide (l = m) = false) := Lib.hid (by have := HX.out; rw [if_neg (by simp [d2])] at this; exact this)
              clear HX
              go_wp2_with fail
              refine wp_region_held_drew (S := (fun V => Below wr.heap.size wr V)) (by kernel_rfl) (by exact (Below.refl _ _).drew) (fun hHeld => ?_)
              refine wpAnyH_take (i := 0) (oi := { dst := some 17, op := _, type := _, pos := _, after := _, guard := _ }) (v := ?_) rfl (by kernel_rfl) (by kernel_rfl) (by kernel_rfl) (fun _ _ _ h => h) (Or.inl ⟨by rfl, ?_⟩) hHeld ?_
              rotate_left
              · (intro w hSw; obtain ⟨g0, g1, g2⟩ := HK1.out _ hSw; obtain ⟨h0, h1, h2⟩ := HK0.out _ hSw; go_simp <;> with_reducible rfl)
              try simp only [Act.put, List.setIfInBounds_toArray, List.set_cons_zero, List.set_cons_succ]
              refine wpAnyH_take (i := 1) (oi := { dst := some 18, op := _, type := _, pos := _, after := _, guard := _ }) (v := ?_) rfl (by kernel_rfl) (by kernel_rfl) (by kernel_rfl) (fun _ _ _ h => h) (Or.inl ⟨by rfl, ?_⟩) hHeld ?_
              rotate_left
              · (intro w hSw; obtain ⟨g0, g1, g2⟩ := HK1.out _ hSw; obtain ⟨h0, h1, h2⟩ := HK0.out _ hSw; go_simp <;> with_reducible rfl)
              try simp only [Act.put, List.setIfInBounds_toArray, List.set_cons_zero, List.set_cons_succ]
              refine wpAnyH_take (i := 2) (oi := { dst := some 19, op := _, type := _, pos := _, after := _, guard := _ }) (v := ?_) rfl (by kernel_rfl) (by kernel_rfl) (by kernel_rfl) (fun _ _ _ h => h) (Or.inl ⟨by rfl, ?_⟩) hHeld ?_
              rotate_left
              · (intro w hSw; obtain ⟨g0, g1, g2⟩ := HK1.out _ hSw; obtain ⟨h0, h1, h2⟩ := HK0.out _ hSw; go_simp <;> with_reducible rfl)
              try simp only [Act.put, List.setIfInBounds_toArray, List.set_cons_zero, List.set_cons_succ]
              refine wpAnyH_take (i := 3) (oi := { dst := some 20, op := _, type := _, pos := _, after := _, guard := _ }) (v := ?_) rfl (by kernel_rfl) (by kernel_rfl) (by kernel_rfl) (fun _ _ _ h => h) (Or.inl ⟨by rfl, ?_⟩) hHeld ?_
              rotate_left
              · (intro w hSw; obtain ⟨g0, g1, g2⟩ := HK1.out _ hSw; obtain ⟨h0, h1, h2⟩ := HK0.out _ hSw; go_simp <;> with_reducible rfl)
              try simp only [Act.put, List.setIfInBounds_toArray, List.set_cons_zero, List.set_cons_succ]
              refine wpAnyH_take (i := 4) (oi := { dst := some 21, op := _, type := _, pos := _, after := _, guard := _ }) (v := ?_) rfl (by kernel_rfl) (by kernel_rfl) (by kernel_rfl) (fun _ _ _ h => h) (Or.inl ⟨by rfl, ?_⟩) hHeld ?_
              rotate_left
              · (intro w hSw; obtain ⟨g0, g1, g2⟩ := HK1.out _ hSw; obtain ⟨h0, h1, h2⟩ := HK0.out _ hSw; go_simp <;> with_reducible rfl)
              try simp only [Act.put, List.setIfInBounds_toArray, List.set_cons_zero, List.set_cons_succ]
              refine wpAnyH_take (i := 5) (oi := { dst := some 22, op := _, type := _, pos := _, after := _, guard := _ }) (v := ?_) rfl (by kernel_rfl) (by kernel_rfl) (by kernel_rfl) (fun _ _ _ h => h) (Or.inl ⟨by rfl, ?_⟩) hHeld ?_
              rotate_left
              · (intro w hSw; obtain ⟨g0, g1, g2⟩ := HK1.out _ hSw; obtain ⟨h0, h1, h2⟩ := HK0.out _ hSw; go_simp <;> with_reducible rfl)
              try simp only [Act.put, List.setIfInBounds_toArray, List.set_cons_zero, List.set_cons_succ]
              refine wpAnyH_take (i := 6) (oi := { dst := some 23, op := _, type := _, pos := _, after := _, guard := _ }) (v := ?_) rfl (by kernel_rfl) (by kernel_rfl) (by kernel_rfl) (fun _ _ _ h => h) (Or.inl ⟨by rfl, ?_⟩) hHeld ?_
              rotate_left
              · (intro w hSw; obtain ⟨g0, g1, g2⟩ := HK1.out _ hSw; obtain ⟨h0, h1, h2⟩ := HK0.out _ hSw; go_simp <;> with_reducible rfl)
              try simp only [Act.put, List.setIfInBounds_toArray, List.set_cons_zero, List.set_cons_succ]
              refine wpAnyH_take (i := 7) (oi := { dst := some 24, op := _, type := _, pos := _, after := _, guard := _ }) (v := ?_) rfl (by kernel_rfl) (by kernel_rfl) (by kernel_rfl) (fun _ _ _ h => h) (Or.inl ⟨by rfl, ?_⟩) hHeld ?_
              rotate_left
              · (intro w hSw; obtain ⟨g0, g1, g2⟩ := HK1.out _ hSw; obtain ⟨h0, h1, h2⟩ := HK0.out _ hSw; go_simp <;> with_reducible rfl)
              try simp only [Act.put, List.setIfInBounds_toArray, List.set_cons_zero, List.set_cons_succ]
              refine wpAnyH_take (i := 8) (oi := { dst := some 25, op := _, type := _, pos := _, after := _, guard := _ }) (v := ?_) rfl (by kernel_rfl) (by kernel_rfl) (by kernel_rfl) (fun _ _ _ h => h) (Or.inl ⟨by rfl, ?_⟩) hHeld ?_
              rotate_left
              · (intro w hSw; obtain ⟨g0, g1, g2⟩ := HK1.out _ hSw; obtain ⟨h0, h1, h2⟩ := HK0.out _ hSw; go_simp <;> with_reducible rfl)
              try simp only [Act.put, List.setIfInBounds_toArray, List.set_cons_zero, List.set_cons_succ]
              refine wpAnyH_done (by kernel_rfl) ?_ _
              have hB2 := hB.trans (hHeld.mono hsz)
              go_wp2_with fail
              go_ret
              exact ⟨retB HN.out.symm, hB2⟩
          · have HN : Hid (decide (l = m) = false) := Lib.hid (by have := HX.out; rw [if_neg (by simp [d1])] at this; exact this)
            clear HX
            go_wp2_with fail
            refine wp_region_held_drew (S := (fun V => Below wr.heap.size wr V)) (by kernel_rfl) (by exact (Below.refl _ _).drew) (fun hHeld => ?_)
            refine wpAnyH_take (i := 0) (oi := { dst := some 17, op := _, type := _, pos := _, after := _, guard := _ }) (v := ?_) rfl (by kernel_rfl) (by kernel_rfl) (by kernel_rfl) (fun _ _ _ h => h) (Or.inl ⟨by rfl, ?_⟩) hHeld ?_
            rotate_left
            · (intro w hSw; obtain ⟨g0, g1, g2⟩ := HK1.out _ hSw; obtain ⟨h0, h1, h2⟩ := HK0.out _ hSw; go_simp <;> with_reducible rfl)
            try simp only [Act.put, List.setIfInBounds_toArray, List.set_cons_zero, List.set_cons_succ]
            refine wpAnyH_take (i := 1) (oi := { dst := some 18, op := _, type := _, pos := _, after := _, guard := _ }) (v := ?_) rfl (by kernel_rfl) (by kernel_rfl) (by kernel_rfl) (fun _ _ _ h => h) (Or.inl ⟨by rfl, ?_⟩) hHeld ?_
            rotate_left
            · (intro w hSw; obtain ⟨g0, g1, g2⟩ := HK1.out _ hSw; obtain ⟨h0, h1, h2⟩ := HK0.out _ hSw; go_simp <;> with_reducible rfl)
            try simp only [Act.put, List.setIfInBounds_toArray, List.set_cons_zero, List.set_cons_succ]
            refine wpAnyH_take (i := 2) (oi := { dst := some 19, op := _, type := _, pos := _, after := _, guard := _ }) (v := ?_) rfl (by kernel_rfl) (by kernel_rfl) (by kernel_rfl) (fun _ _ _ h => h) (Or.inl ⟨by rfl, ?_⟩) hHeld ?_
            rotate_left
            · (intro w hSw; obtain ⟨g0, g1, g2⟩ := HK1.out _ hSw; obtain ⟨h0, h1, h2⟩ := HK0.out _ hSw; go_simp <;> with_reducible rfl)
            try simp only [Act.put, List.setIfInBounds_toArray, List.set_cons_zero, List.set_cons_succ]
            refine wpAnyH_take (i := 3) (oi := { dst := some 20, op := _, type := _, pos := _, after := _, guard := _ }) (v := ?_) rfl (by kernel_rfl) (by kernel_rfl) (by kernel_rfl) (fun _ _ _ h => h) (Or.inl ⟨by rfl, ?_⟩) hHeld ?_
            rotate_left
            · (intro w hSw; obtain ⟨g0, g1, g2⟩ := HK1.out _ hSw; obtain ⟨h0, h1, h2⟩ := HK0.out _ hSw; go_simp <;> with_reducible rfl)
            try simp only [Act.put, List.setIfInBounds_toArray, List.set_cons_zero, List.set_cons_succ]
            refine wpAnyH_take (i := 4) (oi := { dst := some 21, op := _, type := _, pos := _, after := _, guard := _ }) (v := ?_) rfl (by kernel_rfl) (by kernel_rfl) (by kernel_rfl) (fun _ _ _ h => h) (Or.inl ⟨by rfl, ?_⟩) hHeld ?_
            rotate_left
            · (intro w hSw; obtain ⟨g0, g1, g2⟩ := HK1.out _ hSw; obtain ⟨h0, h1, h2⟩ := HK0.out _ hSw; go_simp <;> with_reducible rfl)
            try simp only [Act.put, List.setIfInBounds_toArray, List.set_cons_zero, List.set_cons_succ]
            refine wpAnyH_take (i := 5) (oi := { dst := some 22, op := _, type := _, pos := _, after := _, guard := _ }) (v := ?_) rfl (by kernel_rfl) (by kernel_rfl) (by kernel_rfl) (fun _ _ _ h => h) (Or.inl ⟨by rfl, ?_⟩) hHeld ?_
            rotate_left
            · (intro w hSw; obtain ⟨g0, g1, g2⟩ := HK1.out _ hSw; obtain ⟨h0, h1, h2⟩ := HK0.out _ hSw; go_simp <;> with_reducible rfl)
            try simp only [Act.put, List.setIfInBounds_toArray, List.set_cons_zero, List.set_cons_succ]
            refine wpAnyH_take (i := 6) (oi := { dst := some 23, op := _, type := _, pos := _, after := _, guard := _ }) (v := ?_) rfl (by kernel_rfl) (by kernel_rfl) (by kernel_rfl) (fun _ _ _ h => h) (Or.inl ⟨by rfl, ?_⟩) hHeld ?_
            rotate_left
            · (intro w hSw; obtain ⟨g0, g1, g2⟩ := HK1.out _ hSw; obtain ⟨h0, h1, h2⟩ := HK0.out _ hSw; go_simp <;> with_reducible rfl)
            try simp only [Act.put, List.setIfInBounds_toArray, List.set_cons_zero, List.set_cons_succ]
            refine wpAnyH_take (i := 7) (oi := { dst := some 24, op := _, type := _, pos := _, after := _, guard := _ }) (v := ?_) rfl (by kernel_rfl) (by kernel_rfl) (by kernel_rfl) (fun _ _ _ h => h) (Or.inl ⟨by rfl, ?_⟩) hHeld ?_
            rotate_left
            · (intro w hSw; obtain ⟨g0, g1, g2⟩ := HK1.out _ hSw; obtain ⟨h0, h1, h2⟩ := HK0.out _ hSw; go_simp <;> with_reducible rfl)
            try simp only [Act.put, List.setIfInBounds_toArray, List.set_cons_zero, List.set_cons_succ]
            refine wpAnyH_take (i := 8) (oi := { dst := some 25, op := _, type := _, pos := _, after := _, guard := _ }) (v := ?_) rfl (by kernel_rfl) (by kernel_rfl) (by kernel_rfl) (fun _ _ _ h => h) (Or.inl ⟨by rfl, ?_⟩) hHeld ?_
            rotate_left
            · (intro w hSw; obtain ⟨g0, g1, g2⟩ := HK1.out _ hSw; obtain ⟨h0, h1, h2⟩ := HK0.out _ hSw; go_simp <;> with_reducible rfl)
            try simp only [Act.put, List.setIfInBounds_toArray, List.set_cons_zero, List.set_cons_succ]
            refine wpAnyH_done (by kernel_rfl) ?_ _
            have hB2 := hB.trans (hHeld.mono hsz)
            go_wp2_with fail
            go_ret
            exact ⟨retB HN.out.symm, hB2⟩
        · have HN : Hid (decide (l = m) = false) := Lib.hid (by have := HX.out; rw [if_neg (by simp [d0])] at this; exact this)
          clear HX
          go_wp2_with fail
          refine wp_region_held_drew (S := (fun V => Below wr.heap.size wr V)) (by kernel_rfl) (by exact (Below.refl _ _).drew) (fun hHeld => ?_)
          refine wpAnyH_take (i := 0) (oi := { dst := some 17, op := _, type := _, pos := _, after := _, guard := _ }) (v := ?_) rfl (by kernel_rfl) (by kernel_rfl) (by kernel_rfl) (fun _ _ _ h => h) (Or.inl ⟨by rfl, ?_⟩) hHeld ?_
          rotate_left
          · (intro w hSw; obtain ⟨g0, g1, g2⟩ := HK1.out _ hSw; obtain ⟨h0, h1, h2⟩ := HK0.out _ hSw; go_simp <;> with_reducible rfl)
          try simp only [Act.put, List.setIfInBounds_toArray, List.set_cons_zero, List.set_cons_succ]
          refine wpAnyH_take (i := 1) (oi := { dst := some 18, op := _, type := _, pos := _, after := _, guard := _ }) (v := ?_) rfl (by kernel_rfl) (by kernel_rfl) (by kernel_rfl) (fun _ _ _ h => h) (Or.inl ⟨by rfl, ?_⟩) hHeld ?_
          rotate_left
          · (intro w hSw; obtain ⟨g0, g1, g2⟩ := HK1.out _ hSw; obtain ⟨h0, h1, h2⟩ := HK0.out _ hSw; go_simp <;> with_reducible rfl)
          try simp only [Act.put, List.setIfInBounds_toArray, List.set_cons_zero, List.set_cons_succ]
          refine wpAnyH_take (i := 2) (oi := { dst := some 19, op := _, type := _, pos := _, after := _, guard := _ }) (v := ?_) rfl (by kernel_rfl) (by kernel_rfl) (by kernel_rfl) (fun _ _ _ h => h) (Or.inl ⟨by rfl, ?_⟩) hHeld ?_
          rotate_left
          · (intro w hSw; obtain ⟨g0, g1, g2⟩ := HK1.out _ hSw; obtain ⟨h0, h1, h2⟩ := HK0.out _ hSw; go_simp <;> with_reducible rfl)
          try simp only [Act.put, List.setIfInBounds_toArray, List.set_cons_zero, List.set_cons_succ]
          refine wpAnyH_take (i := 3) (oi := { dst := some 20, op := _, type := _, pos := _, after := _, guard := _ }) (v := ?_) rfl (by kernel_rfl) (by kernel_rfl) (by kernel_rfl) (fun _ _ _ h => h) (Or.inl ⟨by rfl, ?_⟩) hHeld ?_
          rotate_left
          · (intro w hSw; obtain ⟨g0, g1, g2⟩ := HK1.out _ hSw; obtain ⟨h0, h1, h2⟩ := HK0.out _ hSw; go_simp <;> with_reducible rfl)
          try simp only [Act.put, List.setIfInBounds_toArray, List.set_cons_zero, List.set_cons_succ]
          refine wpAnyH_take (i := 4) (oi := { dst := some 21, op := _, type := _, pos := _, after := _, guard := _ }) (v := ?_) rfl (by kernel_rfl) (by kernel_rfl) (by kernel_rfl) (fun _ _ _ h => h) (Or.inl ⟨by rfl, ?_⟩) hHeld ?_
          rotate_left
          · (intro w hSw; obtain ⟨g0, g1, g2⟩ := HK1.out _ hSw; obtain ⟨h0, h1, h2⟩ := HK0.out _ hSw; go_simp <;> with_reducible rfl)
          try simp only [Act.put, List.setIfInBounds_toArray, List.set_cons_zero, List.set_cons_succ]
          refine wpAnyH_take (i := 5) (oi := { dst := some 22, op := _, type := _, pos := _, after := _, guard := _ }) (v := ?_) rfl (by kernel_rfl) (by kernel_rfl) (by kernel_rfl) (fun _ _ _ h => h) (Or.inl ⟨by rfl, ?_⟩) hHeld ?_
          rotate_left
          · (intro w hSw; obtain ⟨g0, g1, g2⟩ := HK1.out _ hSw; obtain ⟨h0, h1, h2⟩ := HK0.out _ hSw; go_simp <;> with_reducible rfl)
          try simp only [Act.put, List.setIfInBounds_toArray, List.set_cons_zero, List.set_cons_succ]
          refine wpAnyH_take (i := 6) (oi := { dst := some 23, op := _, type := _, pos := _, after := _, guard := _ }) (v := ?_) rfl (by kernel_rfl) (by kernel_rfl) (by kernel_rfl) (fun _ _ _ h => h) (Or.inl ⟨by rfl, ?_⟩) hHeld ?_
          rotate_left
          · (intro w hSw; obtain ⟨g0, g1, g2⟩ := HK1.out _ hSw; obtain ⟨h0, h1, h2⟩ := HK0.out _ hSw; go_simp <;> with_reducible rfl)
          try simp only [Act.put, List.setIfInBounds_toArray, List.set_cons_zero, List.set_cons_succ]
          refine wpAnyH_take (i := 7) (oi := { dst := some 24, op := _, type := _, pos := _, after := _, guard := _ }) (v := ?_) rfl (by kernel_rfl) (by kernel_rfl) (by kernel_rfl) (fun _ _ _ h => h) (Or.inl ⟨by rfl, ?_⟩) hHeld ?_
          rotate_left
          · (intro w hSw; obtain ⟨g0, g1, g2⟩ := HK1.out _ hSw; obtain ⟨h0, h1, h2⟩ := HK0.out _ hSw; go_simp <;> with_reducible rfl)
          try simp only [Act.put, List.setIfInBounds_toArray, List.set_cons_zero, List.set_cons_succ]
          refine wpAnyH_take (i := 8) (oi := { dst := some 25, op := _, type := _, pos := _, after := _, guard := _ }) (v := ?_) rfl (by kernel_rfl) (by kernel_rfl) (by kernel_rfl) (fun _ _ _ h => h) (Or.inl ⟨by rfl, ?_⟩) hHeld ?_
          rotate_left
          · (intro w hSw; obtain ⟨g0, g1, g2⟩ := HK1.out _ hSw; obtain ⟨h0, h1, h2⟩ := HK0.out _ hSw; go_simp <;> with_reducible rfl)
          try simp only [Act.put, List.setIfInBounds_toArray, List.set_cons_zero, List.set_cons_succ]
          refine wpAnyH_done (by kernel_rfl) ?_ _
          have hB2 := hB.trans (hHeld.mono hsz)
          go_wp2_with fail
          go_ret
          exact ⟨retB HN.out.symm, hB2⟩
      · have HE := Lib.hid (show decide (l = m) = true from decide_eq_true (list_eq_ofL HLM.out fun j h1 h2 => hno j h1 h2 (by omega)))
        clear hno
        go_wp2_with fail
        go_ret
        exact ⟨retB HE.out.symm, hB⟩
  · have HE := Lib.hid (show decide (l = m) = false from decide_eq_false fun e => hlen (by rw [e]))
    have hlen2 : ¬ ((l.length : Int) = (m.length : Int)) := by omega
    have hlen3 : ((l.length : Int) != (m.length : Int)) = true := by simpa using hlen2
    clear hlen
    go_enter Try.func54, Try.ntmps54
    go_wp2_with fail
    go_ret
    exact ⟨retB HE.out.symm, Below.refl _ _⟩

theorem rlsame_any_self (A A2 : Option Addr) (cap cap2 : Nat) (l : List Lt) (w : World) (hl : l.length ≤ 1000000) (hs : Sl w A (rc Lt.cells l)) (hs2 : Sl w A2 (rc Lt.cells l)) :
    Calls Try.prog 54 #[.slice A l.length cap, .slice A2 l.length cap2] w fun e w' => e = .returned (.bool true) ∧ Below w.heap.size w w' :=
  (rlsame_any A A2 cap cap2 l l w hl hs hs2).mono fun _ _ ⟨he, hw⟩ => ⟨by rw [he, decide_eq_true rfl], hw⟩

def Lt.Dk (b2 : Nat) (p : Lt → Bool) (l : List Lt) (n c g B : Nat) (w : World) (i j : Value) (wr : World) : Prop :=
  ∃ (kk jj : Nat) (l' : List Lt), i = .int .i64 kk ∧ j = .int .i64 jj ∧ jj ≤ n ∧ kk < jj ∧ l'.length = n ∧ l'.take kk = (l.take jj).filter (fun g => !p g) ∧ (∀ t, jj ≤ t → l'[t]? = l[t]?) ∧
    wr.ownsRow B 74 3 (.slice (some ⟨g, 0, none⟩) n c) n (rc Lt.cells l') ∧ Below B w wr ∧ wr.heap[b2]? = w.heap[b2]?
set_option maxHeartbeats 4000000 in
set_option maxRecDepth 100000 in
theorem delfunc_keep (b2 B n c : Nat) (A : Option Addr) (l : List Lt) (F : Nat) (caps : Array Value) (p : Lt → Bool) (w : World) (hn : l.length = n) (hn6 : n ≤ 1000000) (hBw : B ≤ w.heap.size) (hown : w.ownsRow B 74 3 (.slice A n c) n (rc Lt.cells l))
    (hF : Ent Try.prog F) (hp : Lt.Tells F caps p B w) (hk2w : b2 < w.heap.size) (hk2g : ∀ g, A = some ⟨g, 0, none⟩ → b2 ≠ g) :
    Calls Try.prog 100 #[.slice A n c, .func (.func F) #[] caps] w fun e w' =>
      (∃ c', e = .returned (.slice A (l.filter fun g => !p g).length c') ∧ w'.ownsRow B 74 3 (.slice A (l.filter fun g => !p g).length c') (l.filter fun g => !p g).length (rc Lt.cells (l.filter fun g => !p g))) ∧ Below B w w' ∧ w'.heap[b2]? = w.heap[b2]? := by
  have hidx := index_lt A c l F caps p w (by omega) (Sl.of_own hown) hF (hp.below (Below.refl _ _) hBw)
  rw [hn] at hidx
  rcases atL_cases p l with ⟨h0, hno⟩ | ⟨k, hk, h0, hpk, hno⟩
  · rw [h0] at hidx
    rw [filter_none hno, hn]
    go_enter Try.func100, Try.ntmps100
    go_wp2_with fail
    refine hidx.mono ?_
    rintro e w1 ⟨rfl, hb1⟩
    have hown1 := own_below hown hb1
    go_wp2_with fail
    go_ret
    exact ⟨⟨c, rfl, hown1⟩, hb1.mono hBw, hb1.block b2 hk2w⟩
  · rw [h0] at hidx
    obtain ⟨g, rfl, hgB, hgw, hgf⟩ := own_at hown (by omega)
    have HNE := Lib.hid (hk2g g rfl)
    clear hk2g
    have HFH := Lib.hid (filter_head hk (fun j hj => hno j hj) hpk)
    have hk1 : k < n := by omega
    have hw1 : IntKind.i64.wrap ((k : Int) + 1) = (k : Int) + 1 := by rw [IntKind.wrap_i64]; omega
    have HLN := Lib.hid hn
    have hkm : ((k : Int) == -1) = false := by simp
    clear hno hpk h0
    go_enter Try.func100, Try.ntmps100
    go_wp2_with fail
    refine hidx.mono ?_
    rintro e w1 ⟨rfl, hb1⟩
    have hown1 := own_below hown hb1
    have hB1 : Below B w w1 := hb1.mono hBw
    have K1 := Lib.hid (hb1.block b2 hk2w)
    clear hb1 hidx
    go_wp2_with fail
    go_loopw [5, 6] (fun i j wr => Lt.Dk b2 p l n c g B w i j wr) (fun _ j _ => n - (intOf j).toNat)
    case atStart => exact ⟨k, k + 1, l, rfl, by first | rfl | go_num, by omega, by omega, HLN.out, HFH.out.symm, fun t _ => rfl, hown1, hB1, K1.out⟩
    case round =>
      obtain ⟨kk, jj, l', rfl, rfl, hjn, hkj, hl', htk, hab, howr, hBr, KR⟩ := hrel
      have KR := Lib.hid KR
      have hk2r : b2 < wr.heap.size := Nat.lt_of_lt_of_le hk2w hBr.size
      by_cases hlt : jj < n
      · have hl6 : jj < l.length := by have := HLN.out; omega
        have hl7 : jj < l'.length := by omega
        have hl8 : kk < l'.length := by omega
        obtain ⟨b, o, e, hbw, hgat⟩ := (Sl.of_own howr).lt hl7
        injection e with e
        injection e with e1 e2 e3
        subst e1; subst e2
        simp only [Nat.zero_add] at hgat
        have hel : l'[jj] = l[jj] := by
          have := hab jj (Nat.le_refl _)
          rw [List.getElem?_eq_getElem hl7, List.getElem?_eq_getElem hl6] at this
          injection this
        rw [hel] at hgat
        have hgg := own_slice_g howr
        have hgw2 := hgg.2.1
        have hfz := hgg.2.2.1
        clear hgg
        have HSN := Lib.hid (filter_snoc (fun g => !p g) l jj hl6)
        have HTK := Lib.hid htk
        have HAB := Lib.hid hab
        have HL7 := Lib.hid hl'
        have HL8 := Lib.hid hl8
        clear hel htk hab hl' hl8
        generalize l[jj] = v at hgat HSN
        clear hl6 hl7
        obtain ⟨g0, g1, g2⟩ := hgat
        have hcs := @cell_set
        have hw2 : IntKind.i64.wrap ((jj : Int) + 1) = (jj : Int) + 1 := by rw [IntKind.wrap_i64]; omega
        have hw3 : IntKind.i64.wrap ((kk : Int) + 1) = (kk : Int) + 1 := by rw [IntKind.wrap_i64]; omega
        cases hq : p v with
        | true =>
          have HQ := Lib.hid hq
          clear hq
          go_wp2_with fail
          rw [hF, Oper.upon_enter]
          have hBa : Below B w (wr.alloc (.cells v.cells.toArray 74)) := hBr.alloc (Nat.le_trans hBw hBr.size) _
          refine (hp v _ hBa).mono ?_
          rintro e w2 ⟨rfl, hb2⟩
          have hown2 := own_below (howr.alloc (.cells v.cells.toArray 74)) hb2
          have hB2 : Below B w w2 := hBa.trans (hb2.mono (Nat.le_trans hBw hBa.size))
          have K2 := Lib.hid ((hb2.block b2 (by rw [World.size_alloc]; omega)).trans ((Below.heap_alloc wr (.cells v.cells.toArray 74) b2 hk2r).trans KR.out))
          clear hb2 hBa
          rw [HQ.out]
          go_wp2
          go_roundw
          case rel =>
            refine ⟨kk, jj + 1, l', rfl, by go_num, by omega, by omega, HL7.out, ?_, fun t ht => HAB.out t (by omega), hown2, hB2, K2.out⟩
            rw [HSN.out, HQ.out]
            simpa using HTK.out
          case measure => simp [intOf]; omega
        | false =>
          have HQ := Lib.hid hq
          clear hq
          go_wp2_with fail
          rw [hF, Oper.upon_enter]
          have hBa : Below B w (wr.alloc (.cells v.cells.toArray 74)) := hBr.alloc (Nat.le_trans hBw hBr.size) _
          refine (hp v _ hBa).mono ?_
          rintro e w2 ⟨rfl, hb2⟩
          have hown2 := own_below (howr.alloc (.cells v.cells.toArray 74)) hb2
          have hB2 : Below B w w2 := hBa.trans (hb2.mono (Nat.le_trans hBw hBa.size))
          have K2 := Lib.hid ((hb2.block b2 (by rw [World.size_alloc]; omega)).trans ((Below.heap_alloc wr (.cells v.cells.toArray 74) b2 hk2r).trans KR.out))
          have Bv := (Bk.new wr v.cells.toArray 74).below hb2
          have hgN : g ≠ wr.heap.size := by omega
          clear hb2 hBa g0 g1 g2 hgw2 hbw
          rw [HQ.out]
          obtain ⟨lb, cb⟩ := id Bv
          have q0 := cb 0
          have q1 := cb 1
          have q2 := cb 2
          simp [Lt.cells] at q0 q1 q2
          clear cb Bv
          have hgg := own_slice_g hown2
          have hgw2 := hgg.2.1
          have hfz := hgg.2.2.1
          clear hgg
          obtain ⟨b, o, e, hbw, hgat⟩ := (Sl.of_own hown2).lt HL8.out
          injection e with e
          injection e with e1 e2 e3
          subst e1; subst e2
          simp only [Nat.zero_add] at hgat
          generalize l'[kk] = old at hgat
          obtain ⟨g0, g1, g2⟩ := hgat
          go_wp2_with fail
          go_roundw
          case rel =>
            refine ⟨kk + 1, jj + 1, l'.set kk v, by go_num, by go_num, by omega, by omega, by rw [List.length_set]; exact HL7.out, ?_, fun t ht => ?_, own_set_lt hown2 HL8.out v, ?_, ?_⟩
            · rw [set_take_snoc HL8.out, HSN.out, HQ.out, HTK.out]
              simp
            · rw [set_get_above (by omega)]
              exact HAB.out t (by omega)
            · repeat' (first | with_reducible exact hB2 | with_reducible refine Below.setCell ?_ ?_ _)
              all_goals exact hgB
            · repeat (first | exact K2.out | rw [Below.heap_setCell _ _ _ _ HNE.out])
          case measure => simp [intOf]; omega
      · obtain rfl : jj = n := by omega
        have hkn : kk < jj := hkj
        rcases howr.2 with ⟨hh, _⟩ | ⟨g', cap, cur, hh, hB, hg, hnc, hcm, hcs, ht⟩
        · injection hh with e1; cases e1
        injection hh with e1 e2 e3
        injection e1 with e1
        injection e1 with e1
        subst e1; subst e3
        obtain ⟨inf, z, hinf, hz, hsize, hby, hzs⟩ := ELt.info
        have hzc : (Builtin.zeroCells z.cells (jj - kk)).size = (jj - kk) * 3 := by rw [size_zeroCells, hzs]
        have hm1 : kk * 3 + (jj - kk) * 3 ≤ c * 3 := by
          have h1 : kk + (jj - kk) ≤ c := by omega
          have := Nat.mul_le_mul_right 3 h1
          rwa [Nat.add_mul] at this
        have hkc : kk * 3 ≤ jj * 3 := Nat.mul_le_mul_right _ (by omega)
        have hcl : ∀ ty, (Builtin.clear_ #[72] ty #[.slice (some ⟨g, kk * 3, none⟩) (jj - kk) (c - kk)]).run Try.prog wr = .ok (.tuple #[]) (wr.setRow g (cur.toList.take (kk * 3) ++ (Builtin.zeroCells z.cells (jj - kk)).toList ++ cur.toList.drop (kk * 3 + (Builtin.zeroCells z.cells (jj - kk)).toList.length)).toArray) := fun ty =>
          run_clearN wr 72 74 ty z ELt.und (fun w => by simp [zeroValue, typeInfo, hinf, hz]) g (kk * 3) (jj - kk) (c - kk) cur 74 (by omega) hg (by rw [hzc, hcs]; exact hm1) (by
            have hz0 : z = .agg #[.int .i64 0, .int .i64 0, .int .i64 0] := by
              have h2 : (Try.prog.info? 74).bind (·.zero) = some (.agg #[.int .i64 0, .int .i64 0, .int .i64 0]) := by kernel_rfl
              rw [hinf] at h2
              simp [hz] at h2
              exact h2
            rw [hz0]
            refine zeroCells_one _ _ (by simp [Value.cells]) fun u hu => ?_
            simp [Value.cells] at hu
            first | (subst hu; rfl) | (rcases hu with h <;> subst h <;> rfl))
        have hg3 := setRow_heap wr g _ (cur.toList.take (kk * 3) ++ (Builtin.zeroCells z.cells (jj - kk)).toList ++ cur.toList.drop (kk * 3 + (Builtin.zeroCells z.cells (jj - kk)).toList.length)).toArray 74 (0, 0) hg
        have K3 : ∀ cs : Array Value, (wr.setRow g cs).heap[b2]? = w.heap[b2]? := fun cs => by
          refine Eq.trans ?_ KR.out
          show (wr.heap.modify g _)[b2]? = _
          rw [Array.getElem?_modify, if_neg (fun h => HNE.out h.symm)]
        have K3 := Lib.hid (K3 (cur.toList.take (kk * 3) ++ (Builtin.zeroCells z.cells (jj - kk)).toList ++ cur.toList.drop (kk * 3 + (Builtin.zeroCells z.cells (jj - kk)).toList.length)).toArray)
        have hb3 := below_setRow hBr hB (cur.toList.take (kk * 3) ++ (Builtin.zeroCells z.cells (jj - kk)).toList ++ cur.toList.drop (kk * 3 + (Builtin.zeroCells z.cells (jj - kk)).toList.length)).toArray
        have hsz3 : (cur.toList.take (kk * 3) ++ (Builtin.zeroCells z.cells (jj - kk)).toList ++ cur.toList.drop (kk * 3 + (Builtin.zeroCells z.cells (jj - kk)).toList.length)).toArray.size = c * 3 := by
          simp only [List.size_toArray, List.length_append, List.length_take, List.length_drop, Array.length_toList, hcs, hzc]
          omega
        have htk3 : (cur.toList.take (kk * 3) ++ (Builtin.zeroCells z.cells (jj - kk)).toList ++ cur.toList.drop (kk * 3 + (Builtin.zeroCells z.cells (jj - kk)).toList.length)).toArray.toList.take (kk * 3) = rc Lt.cells (l'.take kk) := by
          rw [← rc_take Lt.len, ← ht, List.take_take, Nat.min_eq_left hkc, List.append_assoc]
          rw [List.take_append_of_le_length (by simp only [List.length_take, Array.length_toList, hcs]; omega), List.take_take, Nat.min_self]
        generalize (cur.toList.take (kk * 3) ++ (Builtin.zeroCells z.cells (jj - kk)).toList ++ cur.toList.drop (kk * 3 + (Builtin.zeroCells z.cells (jj - kk)).toList.length)).toArray = NEW at hcl hg3 hb3 K3 hsz3 htk3
        generalize wr.setRow g NEW = W3 at hcl hg3 hb3 K3
        have hfl : l.filter (fun g => !p g) = l'.take kk := by rw [htk, List.take_of_length_le (by rw [HLN.out]; omega)]
        have hfn : (l'.take kk).length = kk := by rw [List.length_take]; omega
        have hown3 : W3.ownsRow B 74 3 (.slice (some ⟨g, 0, none⟩) kk c) kk (rc Lt.cells (l'.take kk)) :=
          ⟨by rw [rc_length Lt.len, hfn], .inr ⟨g, c, NEW, rfl, hB, hg3, by omega, hcm, hsz3, htk3⟩⟩
        have hbk : ¬ (c = kk) := by omega
        have HFL := Lib.hid hfl
        have HFN := Lib.hid hfn
        unfold maxLen at hcm
        clear hfl hfn hg3 htk3 hsz3 hkc hm1 hzc hsize hby hzs hinf hz htk hab hl' hcs ht hg
        go_wp2_with fail
        refine bodyPost_ret (results_tmp rfl _ _ _) rfl ⟨⟨c, ?_, ?_⟩, hb3, K3.out.trans (Array.getElem?_eq_getElem hk2w)⟩
        · rw [HFL.out, HFN.out]; rfl
        · rw [HFL.out, HFN.out]; exact hown3


set_option maxHeartbeats 4000000 in
set_option maxRecDepth 100000 in
theorem delfunc_at (B n c : Nat) (A : Option Addr) (l : List Lt) (F : Nat) (caps : Array Value) (p : Lt → Bool) (w : World) (hn : l.length = n) (hn6 : n ≤ 1000000) (hBw : B ≤ w.heap.size) (hown : w.ownsRow B 74 3 (.slice A n c) n (rc Lt.cells l))
    (hF : Ent Try.prog F) (hp : Lt.Tells F caps p B w) :
    Calls Try.prog 100 #[.slice A n c, .func (.func F) #[] caps] w fun e w' =>
      (∃ c', e = .returned (.slice A (l.filter fun g => !p g).length c') ∧ w'.ownsRow B 74 3 (.slice A (l.filter fun g => !p g).length c') (l.filter fun g => !p g).length (rc Lt.cells (l.filter fun g => !p g))) ∧ Below B w w' := by
  have hidx := index_lt A c l F caps p w (by omega) (Sl.of_own hown) hF (hp.below (Below.refl _ _) hBw)
  rw [hn] at hidx
  rcases atL_cases p l with ⟨h0, hno⟩ | ⟨k, hk, h0, hpk, hno⟩
  · rw [h0] at hidx
    rw [filter_none hno, hn]
    go_enter Try.func100, Try.ntmps100
    go_wp2_with fail
    refine hidx.mono ?_
    rintro e w1 ⟨rfl, hb1⟩
    have hown1 := own_below hown hb1
    go_wp2_with fail
    go_ret
    exact ⟨⟨c, rfl, hown1⟩, hb1.mono hBw⟩
  · rw [h0] at hidx
    obtain ⟨g, rfl, hgB, hgw, hgf⟩ := own_at hown (by omega)
    have HFH := Lib.hid (filter_head hk (fun j hj => hno j hj) hpk)
    have hk1 : k < n := by omega
    have hw1 : IntKind.i64.wrap ((k : Int) + 1) = (k : Int) + 1 := by rw [IntKind.wrap_i64]; omega
    have HLN := Lib.hid hn
    have hkm : ((k : Int) == -1) = false := by simp
    clear hno hpk h0
    go_enter Try.func100, Try.ntmps100
    go_wp2_with fail
    refine hidx.mono ?_
    rintro e w1 ⟨rfl, hb1⟩
    have hown1 := own_below hown hb1
    have hB1 : Below B w w1 := hb1.mono hBw
    clear hb1 hidx
    go_wp2_with fail
    go_loopw [5, 6] (fun i j wr => Lt.Df p l n c g B w i j wr) (fun _ j _ => n - (intOf j).toNat)
    case atStart => exact ⟨k, k + 1, l, rfl, by first | rfl | go_num, by omega, by omega, HLN.out, HFH.out.symm, fun t _ => rfl, hown1, hB1⟩
    case round =>
      obtain ⟨kk, jj, l', rfl, rfl, hjn, hkj, hl', htk, hab, howr, hBr⟩ := hrel
      by_cases hlt : jj < n
      · have hl6 : jj < l.length := by have := HLN.out; omega
        have hl7 : jj < l'.length := by omega
        have hl8 : kk < l'.length := by omega
        obtain ⟨b, o, e, hbw, hgat⟩ := (Sl.of_own howr).lt hl7
        injection e with e
        injection e with e1 e2 e3
        subst e1; subst e2
        simp only [Nat.zero_add] at hgat
        have hel : l'[jj] = l[jj] := by
          have := hab jj (Nat.le_refl _)
          rw [List.getElem?_eq_getElem hl7, List.getElem?_eq_getElem hl6] at this
          injection this
        rw [hel] at hgat
        have hgg := own_slice_g howr
        have hgw2 := hgg.2.1
        have hfz := hgg.2.2.1
        clear hgg
        have HSN := Lib.hid (filter_snoc (fun g => !p g) l jj hl6)
        have HTK := Lib.hid htk
        have HAB := Lib.hid hab
        have HL7 := Lib.hid hl'
        have HL8 := Lib.hid hl8
        clear hel htk hab hl' hl8
        generalize l[jj] = v at hgat HSN
        clear hl6 hl7
        obtain ⟨g0, g1, g2⟩ := hgat
        have hcs := @cell_set
        have hw2 : IntKind.i64.wrap ((jj : Int) + 1) = (jj : Int) + 1 := by rw [IntKind.wrap_i64]; omega
        have hw3 : IntKind.i64.wrap ((kk : Int) + 1) = (kk : Int) + 1 := by rw [IntKind.wrap_i64]; omega
        cases hq : p v with
        | true =>
          have HQ := Lib.hid hq
          clear hq
          go_wp2_with fail
          rw [hF, Oper.upon_enter]
          have hBa : Below B w (wr.alloc (.cells v.cells.toArray 74)) := hBr.alloc (Nat.le_trans hBw hBr.size) _
          refine (hp v _ hBa).mono ?_
          rintro e w2 ⟨rfl, hb2⟩
          have hown2 := own_below (howr.alloc (.cells v.cells.toArray 74)) hb2
          have hB2 : Below B w w2 := hBa.trans (hb2.mono (Nat.le_trans hBw hBa.size))
          clear hb2 hBa
          rw [HQ.out]
          go_wp2
          go_roundw
          case rel =>
            refine ⟨kk, jj + 1, l', rfl, by go_num, by omega, by omega, HL7.out, ?_, fun t ht => HAB.out t (by omega), hown2, hB2⟩
            rw [HSN.out, HQ.out]
            simpa using HTK.out
          case measure => simp [intOf]; omega
        | false =>
          have HQ := Lib.hid hq
          clear hq
          go_wp2_with fail
          rw [hF, Oper.upon_enter]
          have hBa : Below B w (wr.alloc (.cells v.cells.toArray 74)) := hBr.alloc (Nat.le_trans hBw hBr.size) _
          refine (hp v _ hBa).mono ?_
          rintro e w2 ⟨rfl, hb2⟩
          have hown2 := own_below (howr.alloc (.cells v.cells.toArray 74)) hb2
          have hB2 : Below B w w2 := hBa.trans (hb2.mono (Nat.le_trans hBw hBa.size))
          have Bv := (Bk.new wr v.cells.toArray 74).below hb2
          have hgN : g ≠ wr.heap.size := by omega
          clear hb2 hBa g0 g1 g2 hgw2 hbw
          rw [HQ.out]
          obtain ⟨lb, cb⟩ := id Bv
          have q0 := cb 0
          have q1 := cb 1
          have q2 := cb 2
          simp [Lt.cells] at q0 q1 q2
          clear cb Bv
          have hgg := own_slice_g hown2
          have hgw2 := hgg.2.1
          have hfz := hgg.2.2.1
          clear hgg
          obtain ⟨b, o, e, hbw, hgat⟩ := (Sl.of_own hown2).lt HL8.out
          injection e with e
          injection e with e1 e2 e3
          subst e1; subst e2
          simp only [Nat.zero_add] at hgat
          generalize l'[kk] = old at hgat
          obtain ⟨g0, g1, g2⟩ := hgat
          go_wp2_with fail
          go_roundw
          case rel =>
            refine ⟨kk + 1, jj + 1, l'.set kk v, by go_num, by go_num, by omega, by omega, by rw [List.length_set]; exact HL7.out, ?_, fun t ht => ?_, own_set_lt hown2 HL8.out v, ?_⟩
            · rw [set_take_snoc HL8.out, HSN.out, HQ.out, HTK.out]
              simp
            · rw [set_get_above (by omega)]
              exact HAB.out t (by omega)
            · repeat' (first | with_reducible exact hB2 | with_reducible refine Below.setCell ?_ ?_ _)
              all_goals exact hgB
          case measure => simp [intOf]; omega
      · obtain rfl : jj = n := by omega
        have hkn : kk < jj := hkj
        rcases howr.2 with ⟨hh, _⟩ | ⟨g', cap, cur, hh, hB, hg, hnc, hcm, hcs, ht⟩
        · injection hh with e1; cases e1
        injection hh with e1 e2 e3
        injection e1 with e1
        injection e1 with e1
        subst e1; subst e3
        obtain ⟨inf, z, hinf, hz, hsize, hby, hzs⟩ := ELt.info
        have hzc : (Builtin.zeroCells z.cells (jj - kk)).size = (jj - kk) * 3 := by rw [size_zeroCells, hzs]
        have hm1 : kk * 3 + (jj - kk) * 3 ≤ c * 3 := by
          have h1 : kk + (jj - kk) ≤ c := by omega
          have := Nat.mul_le_mul_right 3 h1
          rwa [Nat.add_mul] at this
        have hkc : kk * 3 ≤ jj * 3 := Nat.mul_le_mul_right _ (by omega)
        have hcl : ∀ ty, (Builtin.clear_ #[72] ty #[.slice (some ⟨g, kk * 3, none⟩) (jj - kk) (c - kk)]).run Try.prog wr = .ok (.tuple #[]) (wr.setRow g (cur.toList.take (kk * 3) ++ (Builtin.zeroCells z.cells (jj - kk)).toList ++ cur.toList.drop (kk * 3 + (Builtin.zeroCells z.cells (jj - kk)).toList.length)).toArray) := fun ty =>
          run_clearN wr 72 74 ty z ELt.und (fun w => by simp [zeroValue, typeInfo, hinf, hz]) g (kk * 3) (jj - kk) (c - kk) cur 74 (by omega) hg (by rw [hzc, hcs]; exact hm1) (by
            have hz0 : z = .agg #[.int .i64 0, .int .i64 0, .int .i64 0] := by
              have h2 : (Try.prog.info? 74).bind (·.zero) = some (.agg #[.int .i64 0, .int .i64 0, .int .i64 0]) := by kernel_rfl
              rw [hinf] at h2
              simp [hz] at h2
              exact h2
            rw [hz0]
            refine zeroCells_one _ _ (by simp [Value.cells]) fun u hu => ?_
            simp [Value.cells] at hu
            first | (subst hu; rfl) | (rcases hu with h <;> subst h <;> rfl))
        have hg3 := setRow_heap wr g _ (cur.toList.take (kk * 3) ++ (Builtin.zeroCells z.cells (jj - kk)).toList ++ cur.toList.drop (kk * 3 + (Builtin.zeroCells z.cells (jj - kk)).toList.length)).toArray 74 (0, 0) hg
        have hb3 := below_setRow hBr hB (cur.toList.take (kk * 3) ++ (Builtin.zeroCells z.cells (jj - kk)).toList ++ cur.toList.drop (kk * 3 + (Builtin.zeroCells z.cells (jj - kk)).toList.length)).toArray
        have hsz3 : (cur.toList.take (kk * 3) ++ (Builtin.zeroCells z.cells (jj - kk)).toList ++ cur.toList.drop (kk * 3 + (Builtin.zeroCells z.cells (jj - kk)).toList.length)).toArray.size = c * 3 := by
          simp only [List.size_toArray, List.length_append, List.length_take, List.length_drop, Array.length_toList, hcs, hzc]
          omega
        have htk3 : (cur.toList.take (kk * 3) ++ (Builtin.zeroCells z.cells (jj - kk)).toList ++ cur.toList.drop (kk * 3 + (Builtin.zeroCells z.cells (jj - kk)).toList.length)).toArray.toList.take (kk * 3) = rc Lt.cells (l'.take kk) := by
          rw [← rc_take Lt.len, ← ht, List.take_take, Nat.min_eq_left hkc, List.append_assoc]
          rw [List.take_append_of_le_length (by simp only [List.length_take, Array.length_toList, hcs]; omega), List.take_take, Nat.min_self]
        generalize (cur.toList.take (kk * 3) ++ (Builtin.zeroCells z.cells (jj - kk)).toList ++ cur.toList.drop (kk * 3 + (Builtin.zeroCells z.cells (jj - kk)).toList.length)).toArray = NEW at hcl hg3 hb3 hsz3 htk3
        generalize wr.setRow g NEW = W3 at hcl hg3 hb3
        have hfl : l.filter (fun g => !p g) = l'.take kk := by rw [htk, List.take_of_length_le (by rw [HLN.out]; omega)]
        have hfn : (l'.take kk).length = kk := by rw [List.length_take]; omega
        have hown3 : W3.ownsRow B 74 3 (.slice (some ⟨g, 0, none⟩) kk c) kk (rc Lt.cells (l'.take kk)) :=
          ⟨by rw [rc_length Lt.len, hfn], .inr ⟨g, c, NEW, rfl, hB, hg3, by omega, hcm, hsz3, htk3⟩⟩
        have hbk : ¬ (c = kk) := by omega
        have HFL := Lib.hid hfl
        have HFN := Lib.hid hfn
        unfold maxLen at hcm
        clear hfl hfn hg3 htk3 hsz3 hkc hm1 hzc hsize hby hzs hinf hz htk hab hl' hcs ht hg
        go_wp2_with fail
        refine bodyPost_ret (results_tmp rfl _ _ _) rfl ⟨⟨c, ?_, ?_⟩, hb3⟩
        · rw [HFL.out, HFN.out]; rfl
        · rw [HFL.out, HFN.out]; exact hown3


end Go.Proofs.Ytfagpdnckmaomaa
