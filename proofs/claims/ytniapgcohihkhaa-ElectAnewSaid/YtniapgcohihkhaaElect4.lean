/-
  Layer 16, fourth part: Same, Ready of both sides (laid by gen_elect4.py).
-/
import Derived.Test.YtniapgcohihkhaaElectM
namespace Go.Proofs.Ytniapgcohihkhaa
open Go.ChangeShapes Go.WideShapes Go.ChangeAt Go.RowKit
set_option linter.unusedVariables false
set_option linter.unusedSimpArgs false

theorem list_eq_of {α : Type} {a b : List α} (hl : a.length = b.length) (h : ∀ j, (h1 : j < a.length) → (h2 : j < b.length) → a[j] = b[j]) : a = b := List.ext_getElem hl fun j h1 h2 => h j h1 h2

set_option maxHeartbeats 4000000 in
set_option maxRecDepth 100000 in
theorem same_any (A A2 : Option Addr) (cap cap2 : Nat) (l m : List Ch) (w : World) (hl : l.length ≤ 1000000) (hs : Sl w A (rc Ch.cells l)) (hs2 : Sl w A2 (rc Ch.cells m)) :
    Calls Try.prog 27 #[.slice A l.length cap, .slice A2 m.length cap2] w fun e w' => e = .returned (.bool (decide (l = m))) ∧ Below w.heap.size w w' := by
  by_cases hlen : l.length = m.length
  · go_enter Try.func27, Try.ntmps27
    rw [← hlen]
    have HLM := Lib.hid hlen
    clear hlen
    go_wp2_with fail
    go_loopw [5] (fun i wr => ∃ k : Nat, k ≤ l.length ∧ i = .int .i64 k ∧ (∀ j, (h1 : j < l.length) → (h2 : j < m.length) → j < k → l[j] = m[j]) ∧ Below w.heap.size w wr) (fun i _ => l.length - (intOf i).toNat)
    case atStart => exact ⟨0, by omega, rfl, fun j _ _ h => absurd h (by omega), Below.refl _ _⟩
    case round =>
      obtain ⟨k, hk, rfl, hno, hB⟩ := hrel
      by_cases hlt : k < l.length
      · have hlt2 : k < m.length := by rw [← HLM.out]; exact hlt
        obtain ⟨b, o, rfl, hbw, hg⟩ := hs.ch hlt
        obtain ⟨b2, o2, rfl, hbw2, hg2⟩ := hs2.ch hlt2
        have hbr : b < wr.heap.size := Nat.lt_of_lt_of_le hbw hB.size
        have hbr2 : b2 < wr.heap.size := Nat.lt_of_lt_of_le hbw2 hB.size
        have hsz : w.heap.size ≤ wr.heap.size := hB.size
        have HK1 : Hid (∀ V, Below wr.heap.size wr V → l[k].at V b (o + k * 5)) := Lib.hid fun V hV =>
          Ch.at_keep hg fun i => (hV.cell (p := ⟨b, i, none⟩) hbr).trans (hB.cell (p := ⟨b, i, none⟩) hbw)
        have HK0 : Hid (∀ V, Below wr.heap.size wr V → m[k].at V b2 (o2 + k * 5)) := Lib.hid fun V hV =>
          Ch.at_keep hg2 fun i => (hV.cell (p := ⟨b2, i, none⟩) hbr2).trans (hB.cell (p := ⟨b2, i, none⟩) hbw2)
        have HX : Hid (if l[k] = m[k] then (∀ j, (h1 : j < l.length) → (h2 : j < m.length) → j < k + 1 → l[j] = m[j]) else decide (l = m) = false) := Lib.hid (by
          split
          · rename_i he
            intro j h1 h2 hj
            rcases Nat.lt_or_ge j k with h | h
            · exact hno j h1 h2 h
            · obtain rfl : j = k := by omega
              exact he
          · rename_i he
            rw [decide_eq_false]
            intro e
            subst e
            exact he rfl)
        have hlk : (k : Int) < (l.length : Int) := by omega
        clear hno hs hs2 hg hg2 hbw hbw2
        generalize l[k] = v at HK1 HX
        generalize m[k] = u at HK0 HX
        obtain ⟨fa, fc, ta, tc, con⟩ := v
        obtain ⟨ga, gc, ha, hc, gon⟩ := u
        unfold Ch.at at HK1 HK0
        simp only at HK1 HK0
        by_cases e0 : fa = ga
        · subst e0
          by_cases e1 : fc = gc
          · subst e1
            by_cases e2 : ta = ha
            · subst e2
              by_cases e3 : tc = hc
              · subst e3
                by_cases e4 : con = gon
                · subst e4
                  have HN : Hid (∀ j, (h1 : j < l.length) → (h2 : j < m.length) → j < k + 1 → l[j] = m[j]) := Lib.hid (by have := HX.out; rw [if_pos rfl] at this; exact this)
                  clear HX
                  go_wp2_with fail
                  refine wp_region_held_drew (S := (fun V => Below wr.heap.size wr V)) (by kernel_rfl) (by exact (Below.refl _ _).drew) (fun hHeld => ?_)
                  refine wpAnyH_take (i := 0) (oi := { dst := some 17, op := _, type := _, pos := _, after := _, guard := _ }) (v := ?_) rfl (by kernel_rfl) (by kernel_rfl) (by kernel_rfl) (fun _ _ _ h => h) (Or.inl ⟨by rfl, ?_⟩) hHeld ?_
                  rotate_left
                  · (intro w hSw; obtain ⟨g0, g1, g2, g3, g4⟩ := HK1.out _ hSw; obtain ⟨h0, h1, h2, h3, h4⟩ := HK0.out _ hSw; go_simp <;> with_reducible rfl)
                  try simp only [Act.put, List.setIfInBounds_toArray, List.set_cons_zero, List.set_cons_succ]
                  refine wpAnyH_take (i := 1) (oi := { dst := some 18, op := _, type := _, pos := _, after := _, guard := _ }) (v := ?_) rfl (by kernel_rfl) (by kernel_rfl) (by kernel_rfl) (fun _ _ _ h => h) (Or.inl ⟨by rfl, ?_⟩) hHeld ?_
                  rotate_left
                  · (intro w hSw; obtain ⟨g0, g1, g2, g3, g4⟩ := HK1.out _ hSw; obtain ⟨h0, h1, h2, h3, h4⟩ := HK0.out _ hSw; go_simp <;> with_reducible rfl)
                  try simp only [Act.put, List.setIfInBounds_toArray, List.set_cons_zero, List.set_cons_succ]
                  refine wpAnyH_take (i := 2) (oi := { dst := some 19, op := _, type := _, pos := _, after := _, guard := _ }) (v := ?_) rfl (by kernel_rfl) (by kernel_rfl) (by kernel_rfl) (fun _ _ _ h => h) (Or.inl ⟨by rfl, ?_⟩) hHeld ?_
                  rotate_left
                  · (intro w hSw; obtain ⟨g0, g1, g2, g3, g4⟩ := HK1.out _ hSw; obtain ⟨h0, h1, h2, h3, h4⟩ := HK0.out _ hSw; go_simp <;> with_reducible rfl)
                  try simp only [Act.put, List.setIfInBounds_toArray, List.set_cons_zero, List.set_cons_succ]
                  refine wpAnyH_take (i := 3) (oi := { dst := some 20, op := _, type := _, pos := _, after := _, guard := _ }) (v := ?_) rfl (by kernel_rfl) (by kernel_rfl) (by kernel_rfl) (fun _ _ _ h => h) (Or.inl ⟨by rfl, ?_⟩) hHeld ?_
                  rotate_left
                  · (intro w hSw; obtain ⟨g0, g1, g2, g3, g4⟩ := HK1.out _ hSw; obtain ⟨h0, h1, h2, h3, h4⟩ := HK0.out _ hSw; go_simp <;> with_reducible rfl)
                  try simp only [Act.put, List.setIfInBounds_toArray, List.set_cons_zero, List.set_cons_succ]
                  refine wpAnyH_take (i := 4) (oi := { dst := some 21, op := _, type := _, pos := _, after := _, guard := _ }) (v := ?_) rfl (by kernel_rfl) (by kernel_rfl) (by kernel_rfl) (fun _ _ _ h => h) (Or.inl ⟨by rfl, ?_⟩) hHeld ?_
                  rotate_left
                  · (intro w hSw; obtain ⟨g0, g1, g2, g3, g4⟩ := HK1.out _ hSw; obtain ⟨h0, h1, h2, h3, h4⟩ := HK0.out _ hSw; go_simp <;> with_reducible rfl)
                  try simp only [Act.put, List.setIfInBounds_toArray, List.set_cons_zero, List.set_cons_succ]
                  refine wpAnyH_take (i := 5) (oi := { dst := some 22, op := _, type := _, pos := _, after := _, guard := _ }) (v := ?_) rfl (by kernel_rfl) (by kernel_rfl) (by kernel_rfl) (fun _ _ _ h => h) (Or.inl ⟨by rfl, ?_⟩) hHeld ?_
                  rotate_left
                  · (intro w hSw; obtain ⟨g0, g1, g2, g3, g4⟩ := HK1.out _ hSw; obtain ⟨h0, h1, h2, h3, h4⟩ := HK0.out _ hSw; go_simp <;> with_reducible rfl)
                  try simp only [Act.put, List.setIfInBounds_toArray, List.set_cons_zero, List.set_cons_succ]
                  refine wpAnyH_take (i := 6) (oi := { dst := some 23, op := _, type := _, pos := _, after := _, guard := _ }) (v := ?_) rfl (by kernel_rfl) (by kernel_rfl) (by kernel_rfl) (fun _ _ _ h => h) (Or.inl ⟨by rfl, ?_⟩) hHeld ?_
                  rotate_left
                  · (intro w hSw; obtain ⟨g0, g1, g2, g3, g4⟩ := HK1.out _ hSw; obtain ⟨h0, h1, h2, h3, h4⟩ := HK0.out _ hSw; go_simp <;> with_reducible rfl)
                  try simp only [Act.put, List.setIfInBounds_toArray, List.set_cons_zero, List.set_cons_succ]
                  refine wpAnyH_take (i := 7) (oi := { dst := some 24, op := _, type := _, pos := _, after := _, guard := _ }) (v := ?_) rfl (by kernel_rfl) (by kernel_rfl) (by kernel_rfl) (fun _ _ _ h => h) (Or.inl ⟨by rfl, ?_⟩) hHeld ?_
                  rotate_left
                  · (intro w hSw; obtain ⟨g0, g1, g2, g3, g4⟩ := HK1.out _ hSw; obtain ⟨h0, h1, h2, h3, h4⟩ := HK0.out _ hSw; go_simp <;> with_reducible rfl)
                  try simp only [Act.put, List.setIfInBounds_toArray, List.set_cons_zero, List.set_cons_succ]
                  refine wpAnyH_take (i := 8) (oi := { dst := some 25, op := _, type := _, pos := _, after := _, guard := _ }) (v := ?_) rfl (by kernel_rfl) (by kernel_rfl) (by kernel_rfl) (fun _ _ _ h => h) (Or.inl ⟨by rfl, ?_⟩) hHeld ?_
                  rotate_left
                  · (intro w hSw; obtain ⟨g0, g1, g2, g3, g4⟩ := HK1.out _ hSw; obtain ⟨h0, h1, h2, h3, h4⟩ := HK0.out _ hSw; go_simp <;> with_reducible rfl)
                  try simp only [Act.put, List.setIfInBounds_toArray, List.set_cons_zero, List.set_cons_succ]
                  refine wpAnyH_done (by kernel_rfl) ?_ _
                  have hB2 := hB.trans (hHeld.mono hsz)
                  go_wp2_with fail
                  go_roundw
                  case rel => exact ⟨k + 1, by omega, by go_num, HN.out, hB2⟩
                  case measure => simp [intOf]; omega
                · have HN : Hid (decide (l = m) = false) := Lib.hid (by have := HX.out; rw [if_neg (by simp [e4])] at this; exact this)
                  clear HX
                  have hcn : (con == gon) = false := by simpa using e4
                  go_wp2_with fail
                  refine wp_region_held_drew (S := (fun V => Below wr.heap.size wr V)) (by kernel_rfl) (by exact (Below.refl _ _).drew) (fun hHeld => ?_)
                  refine wpAnyH_take (i := 0) (oi := { dst := some 17, op := _, type := _, pos := _, after := _, guard := _ }) (v := ?_) rfl (by kernel_rfl) (by kernel_rfl) (by kernel_rfl) (fun _ _ _ h => h) (Or.inl ⟨by rfl, ?_⟩) hHeld ?_
                  rotate_left
                  · (intro w hSw; obtain ⟨g0, g1, g2, g3, g4⟩ := HK1.out _ hSw; obtain ⟨h0, h1, h2, h3, h4⟩ := HK0.out _ hSw; go_simp <;> with_reducible rfl)
                  try simp only [Act.put, List.setIfInBounds_toArray, List.set_cons_zero, List.set_cons_succ]
                  refine wpAnyH_take (i := 1) (oi := { dst := some 18, op := _, type := _, pos := _, after := _, guard := _ }) (v := ?_) rfl (by kernel_rfl) (by kernel_rfl) (by kernel_rfl) (fun _ _ _ h => h) (Or.inl ⟨by rfl, ?_⟩) hHeld ?_
                  rotate_left
                  · (intro w hSw; obtain ⟨g0, g1, g2, g3, g4⟩ := HK1.out _ hSw; obtain ⟨h0, h1, h2, h3, h4⟩ := HK0.out _ hSw; go_simp <;> with_reducible rfl)
                  try simp only [Act.put, List.setIfInBounds_toArray, List.set_cons_zero, List.set_cons_succ]
                  refine wpAnyH_take (i := 2) (oi := { dst := some 19, op := _, type := _, pos := _, after := _, guard := _ }) (v := ?_) rfl (by kernel_rfl) (by kernel_rfl) (by kernel_rfl) (fun _ _ _ h => h) (Or.inl ⟨by rfl, ?_⟩) hHeld ?_
                  rotate_left
                  · (intro w hSw; obtain ⟨g0, g1, g2, g3, g4⟩ := HK1.out _ hSw; obtain ⟨h0, h1, h2, h3, h4⟩ := HK0.out _ hSw; go_simp <;> with_reducible rfl)
                  try simp only [Act.put, List.setIfInBounds_toArray, List.set_cons_zero, List.set_cons_succ]
                  refine wpAnyH_take (i := 3) (oi := { dst := some 20, op := _, type := _, pos := _, after := _, guard := _ }) (v := ?_) rfl (by kernel_rfl) (by kernel_rfl) (by kernel_rfl) (fun _ _ _ h => h) (Or.inl ⟨by rfl, ?_⟩) hHeld ?_
                  rotate_left
                  · (intro w hSw; obtain ⟨g0, g1, g2, g3, g4⟩ := HK1.out _ hSw; obtain ⟨h0, h1, h2, h3, h4⟩ := HK0.out _ hSw; go_simp <;> with_reducible rfl)
                  try simp only [Act.put, List.setIfInBounds_toArray, List.set_cons_zero, List.set_cons_succ]
                  refine wpAnyH_take (i := 4) (oi := { dst := some 21, op := _, type := _, pos := _, after := _, guard := _ }) (v := ?_) rfl (by kernel_rfl) (by kernel_rfl) (by kernel_rfl) (fun _ _ _ h => h) (Or.inl ⟨by rfl, ?_⟩) hHeld ?_
                  rotate_left
                  · (intro w hSw; obtain ⟨g0, g1, g2, g3, g4⟩ := HK1.out _ hSw; obtain ⟨h0, h1, h2, h3, h4⟩ := HK0.out _ hSw; go_simp <;> with_reducible rfl)
                  try simp only [Act.put, List.setIfInBounds_toArray, List.set_cons_zero, List.set_cons_succ]
                  refine wpAnyH_take (i := 5) (oi := { dst := some 22, op := _, type := _, pos := _, after := _, guard := _ }) (v := ?_) rfl (by kernel_rfl) (by kernel_rfl) (by kernel_rfl) (fun _ _ _ h => h) (Or.inl ⟨by rfl, ?_⟩) hHeld ?_
                  rotate_left
                  · (intro w hSw; obtain ⟨g0, g1, g2, g3, g4⟩ := HK1.out _ hSw; obtain ⟨h0, h1, h2, h3, h4⟩ := HK0.out _ hSw; go_simp <;> with_reducible rfl)
                  try simp only [Act.put, List.setIfInBounds_toArray, List.set_cons_zero, List.set_cons_succ]
                  refine wpAnyH_take (i := 6) (oi := { dst := some 23, op := _, type := _, pos := _, after := _, guard := _ }) (v := ?_) rfl (by kernel_rfl) (by kernel_rfl) (by kernel_rfl) (fun _ _ _ h => h) (Or.inl ⟨by rfl, ?_⟩) hHeld ?_
                  rotate_left
                  · (intro w hSw; obtain ⟨g0, g1, g2, g3, g4⟩ := HK1.out _ hSw; obtain ⟨h0, h1, h2, h3, h4⟩ := HK0.out _ hSw; go_simp <;> with_reducible rfl)
                  try simp only [Act.put, List.setIfInBounds_toArray, List.set_cons_zero, List.set_cons_succ]
                  refine wpAnyH_take (i := 7) (oi := { dst := some 24, op := _, type := _, pos := _, after := _, guard := _ }) (v := ?_) rfl (by kernel_rfl) (by kernel_rfl) (by kernel_rfl) (fun _ _ _ h => h) (Or.inl ⟨by rfl, ?_⟩) hHeld ?_
                  rotate_left
                  · (intro w hSw; obtain ⟨g0, g1, g2, g3, g4⟩ := HK1.out _ hSw; obtain ⟨h0, h1, h2, h3, h4⟩ := HK0.out _ hSw; go_simp <;> with_reducible rfl)
                  try simp only [Act.put, List.setIfInBounds_toArray, List.set_cons_zero, List.set_cons_succ]
                  refine wpAnyH_take (i := 8) (oi := { dst := some 25, op := _, type := _, pos := _, after := _, guard := _ }) (v := ?_) rfl (by kernel_rfl) (by kernel_rfl) (by kernel_rfl) (fun _ _ _ h => h) (Or.inl ⟨by rfl, ?_⟩) hHeld ?_
                  rotate_left
                  · (intro w hSw; obtain ⟨g0, g1, g2, g3, g4⟩ := HK1.out _ hSw; obtain ⟨h0, h1, h2, h3, h4⟩ := HK0.out _ hSw; go_simp <;> with_reducible rfl)
                  try simp only [Act.put, List.setIfInBounds_toArray, List.set_cons_zero, List.set_cons_succ]
                  refine wpAnyH_done (by kernel_rfl) ?_ _
                  have hB2 := hB.trans (hHeld.mono hsz)
                  go_wp2_with fail
                  go_ret
                  exact ⟨retB HN.out.symm, hB2⟩
              · have HN : Hid (decide (l = m) = false) := Lib.hid (by have := HX.out; rw [if_neg (by simp [e3])] at this; exact this)
                clear HX
                go_wp2_with fail
                refine wp_region_held_drew (S := (fun V => Below wr.heap.size wr V)) (by kernel_rfl) (by exact (Below.refl _ _).drew) (fun hHeld => ?_)
                refine wpAnyH_take (i := 0) (oi := { dst := some 17, op := _, type := _, pos := _, after := _, guard := _ }) (v := ?_) rfl (by kernel_rfl) (by kernel_rfl) (by kernel_rfl) (fun _ _ _ h => h) (Or.inl ⟨by rfl, ?_⟩) hHeld ?_
                rotate_left
                · (intro w hSw; obtain ⟨g0, g1, g2, g3, g4⟩ := HK1.out _ hSw; obtain ⟨h0, h1, h2, h3, h4⟩ := HK0.out _ hSw; go_simp <;> with_reducible rfl)
                try simp only [Act.put, List.setIfInBounds_toArray, List.set_cons_zero, List.set_cons_succ]
                refine wpAnyH_take (i := 1) (oi := { dst := some 18, op := _, type := _, pos := _, after := _, guard := _ }) (v := ?_) rfl (by kernel_rfl) (by kernel_rfl) (by kernel_rfl) (fun _ _ _ h => h) (Or.inl ⟨by rfl, ?_⟩) hHeld ?_
                rotate_left
                · (intro w hSw; obtain ⟨g0, g1, g2, g3, g4⟩ := HK1.out _ hSw; obtain ⟨h0, h1, h2, h3, h4⟩ := HK0.out _ hSw; go_simp <;> with_reducible rfl)
                try simp only [Act.put, List.setIfInBounds_toArray, List.set_cons_zero, List.set_cons_succ]
                refine wpAnyH_take (i := 2) (oi := { dst := some 19, op := _, type := _, pos := _, after := _, guard := _ }) (v := ?_) rfl (by kernel_rfl) (by kernel_rfl) (by kernel_rfl) (fun _ _ _ h => h) (Or.inl ⟨by rfl, ?_⟩) hHeld ?_
                rotate_left
                · (intro w hSw; obtain ⟨g0, g1, g2, g3, g4⟩ := HK1.out _ hSw; obtain ⟨h0, h1, h2, h3, h4⟩ := HK0.out _ hSw; go_simp <;> with_reducible rfl)
                try simp only [Act.put, List.setIfInBounds_toArray, List.set_cons_zero, List.set_cons_succ]
                refine wpAnyH_take (i := 3) (oi := { dst := some 20, op := _, type := _, pos := _, after := _, guard := _ }) (v := ?_) rfl (by kernel_rfl) (by kernel_rfl) (by kernel_rfl) (fun _ _ _ h => h) (Or.inl ⟨by rfl, ?_⟩) hHeld ?_
                rotate_left
                · (intro w hSw; obtain ⟨g0, g1, g2, g3, g4⟩ := HK1.out _ hSw; obtain ⟨h0, h1, h2, h3, h4⟩ := HK0.out _ hSw; go_simp <;> with_reducible rfl)
                try simp only [Act.put, List.setIfInBounds_toArray, List.set_cons_zero, List.set_cons_succ]
                refine wpAnyH_take (i := 4) (oi := { dst := some 21, op := _, type := _, pos := _, after := _, guard := _ }) (v := ?_) rfl (by kernel_rfl) (by kernel_rfl) (by kernel_rfl) (fun _ _ _ h => h) (Or.inl ⟨by rfl, ?_⟩) hHeld ?_
                rotate_left
                · (intro w hSw; obtain ⟨g0, g1, g2, g3, g4⟩ := HK1.out _ hSw; obtain ⟨h0, h1, h2, h3, h4⟩ := HK0.out _ hSw; go_simp <;> with_reducible rfl)
                try simp only [Act.put, List.setIfInBounds_toArray, List.set_cons_zero, List.set_cons_succ]
                refine wpAnyH_take (i := 5) (oi := { dst := some 22, op := _, type := _, pos := _, after := _, guard := _ }) (v := ?_) rfl (by kernel_rfl) (by kernel_rfl) (by kernel_rfl) (fun _ _ _ h => h) (Or.inl ⟨by rfl, ?_⟩) hHeld ?_
                rotate_left
                · (intro w hSw; obtain ⟨g0, g1, g2, g3, g4⟩ := HK1.out _ hSw; obtain ⟨h0, h1, h2, h3, h4⟩ := HK0.out _ hSw; go_simp <;> with_reducible rfl)
                try simp only [Act.put, List.setIfInBounds_toArray, List.set_cons_zero, List.set_cons_succ]
                refine wpAnyH_take (i := 6) (oi := { dst := some 23, op := _, type := _, pos := _, after := _, guard := _ }) (v := ?_) rfl (by kernel_rfl) (by kernel_rfl) (by kernel_rfl) (fun _ _ _ h => h) (Or.inl ⟨by rfl, ?_⟩) hHeld ?_
                rotate_left
                · (intro w hSw; obtain ⟨g0, g1, g2, g3, g4⟩ := HK1.out _ hSw; obtain ⟨h0, h1, h2, h3, h4⟩ := HK0.out _ hSw; go_simp <;> with_reducible rfl)
                try simp only [Act.put, List.setIfInBounds_toArray, List.set_cons_zero, List.set_cons_succ]
                refine wpAnyH_take (i := 7) (oi := { dst := some 24, op := _, type := _, pos := _, after := _, guard := _ }) (v := ?_) rfl (by kernel_rfl) (by kernel_rfl) (by kernel_rfl) (fun _ _ _ h => h) (Or.inl ⟨by rfl, ?_⟩) hHeld ?_
                rotate_left
                · (intro w hSw; obtain ⟨g0, g1, g2, g3, g4⟩ := HK1.out _ hSw; obtain ⟨h0, h1, h2, h3, h4⟩ := HK0.out _ hSw; go_simp <;> with_reducible rfl)
                try simp only [Act.put, List.setIfInBounds_toArray, List.set_cons_zero, List.set_cons_succ]
                refine wpAnyH_take (i := 8) (oi := { dst := some 25, op := _, type := _, pos := _, after := _, guard := _ }) (v := ?_) rfl (by kernel_rfl) (by kernel_rfl) (by kernel_rfl) (fun _ _ _ h => h) (Or.inl ⟨by rfl, ?_⟩) hHeld ?_
                rotate_left
                · (intro w hSw; obtain ⟨g0, g1, g2, g3, g4⟩ := HK1.out _ hSw; obtain ⟨h0, h1, h2, h3, h4⟩ := HK0.out _ hSw; go_simp <;> with_reducible rfl)
                try simp only [Act.put, List.setIfInBounds_toArray, List.set_cons_zero, List.set_cons_succ]
                refine wpAnyH_done (by kernel_rfl) ?_ _
                have hB2 := hB.trans (hHeld.mono hsz)
                go_wp2_with fail
                go_ret
                exact ⟨retB HN.out.symm, hB2⟩
            · have HN : Hid (decide (l = m) = false) := Lib.hid (by have := HX.out; rw [if_neg (by simp [e2])] at this; exact this)
              clear HX
              go_wp2_with fail
              refine wp_region_held_drew (S := (fun V => Below wr.heap.size wr V)) (by kernel_rfl) (by exact (Below.refl _ _).drew) (fun hHeld => ?_)
              refine wpAnyH_take (i := 0) (oi := { dst := some 17, op := _, type := _, pos := _, after := _, guard := _ }) (v := ?_) rfl (by kernel_rfl) (by kernel_rfl) (by kernel_rfl) (fun _ _ _ h => h) (Or.inl ⟨by rfl, ?_⟩) hHeld ?_
              rotate_left
              · (intro w hSw; obtain ⟨g0, g1, g2, g3, g4⟩ := HK1.out _ hSw; obtain ⟨h0, h1, h2, h3, h4⟩ := HK0.out _ hSw; go_simp <;> with_reducible rfl)
              try simp only [Act.put, List.setIfInBounds_toArray, List.set_cons_zero, List.set_cons_succ]
              refine wpAnyH_take (i := 1) (oi := { dst := some 18, op := _, type := _, pos := _, after := _, guard := _ }) (v := ?_) rfl (by kernel_rfl) (by kernel_rfl) (by kernel_rfl) (fun _ _ _ h => h) (Or.inl ⟨by rfl, ?_⟩) hHeld ?_
              rotate_left
              · (intro w hSw; obtain ⟨g0, g1, g2, g3, g4⟩ := HK1.out _ hSw; obtain ⟨h0, h1, h2, h3, h4⟩ := HK0.out _ hSw; go_simp <;> with_reducible rfl)
              try simp only [Act.put, List.setIfInBounds_toArray, List.set_cons_zero, List.set_cons_succ]
              refine wpAnyH_take (i := 2) (oi := { dst := some 19, op := _, type := _, pos := _, after := _, guard := _ }) (v := ?_) rfl (by kernel_rfl) (by kernel_rfl) (by kernel_rfl) (fun _ _ _ h => h) (Or.inl ⟨by rfl, ?_⟩) hHeld ?_
              rotate_left
              · (intro w hSw; obtain ⟨g0, g1, g2, g3, g4⟩ := HK1.out _ hSw; obtain ⟨h0, h1, h2, h3, h4⟩ := HK0.out _ hSw; go_simp <;> with_reducible rfl)
              try simp only [Act.put, List.setIfInBounds_toArray, List.set_cons_zero, List.set_cons_succ]
              refine wpAnyH_take (i := 3) (oi := { dst := some 20, op := _, type := _, pos := _, after := _, guard := _ }) (v := ?_) rfl (by kernel_rfl) (by kernel_rfl) (by kernel_rfl) (fun _ _ _ h => h) (Or.inl ⟨by rfl, ?_⟩) hHeld ?_
              rotate_left
              · (intro w hSw; obtain ⟨g0, g1, g2, g3, g4⟩ := HK1.out _ hSw; obtain ⟨h0, h1, h2, h3, h4⟩ := HK0.out _ hSw; go_simp <;> with_reducible rfl)
              try simp only [Act.put, List.setIfInBounds_toArray, List.set_cons_zero, List.set_cons_succ]
              refine wpAnyH_take (i := 4) (oi := { dst := some 21, op := _, type := _, pos := _, after := _, guard := _ }) (v := ?_) rfl (by kernel_rfl) (by kernel_rfl) (by kernel_rfl) (fun _ _ _ h => h) (Or.inl ⟨by rfl, ?_⟩) hHeld ?_
              rotate_left
              · (intro w hSw; obtain ⟨g0, g1, g2, g3, g4⟩ := HK1.out _ hSw; obtain ⟨h0, h1, h2, h3, h4⟩ := HK0.out _ hSw; go_simp <;> with_reducible rfl)
              try simp only [Act.put, List.setIfInBounds_toArray, List.set_cons_zero, List.set_cons_succ]
              refine wpAnyH_take (i := 5) (oi := { dst := some 22, op := _, type := _, pos := _, after := _, guard := _ }) (v := ?_) rfl (by kernel_rfl) (by kernel_rfl) (by kernel_rfl) (fun _ _ _ h => h) (Or.inl ⟨by rfl, ?_⟩) hHeld ?_
              rotate_left
              · (intro w hSw; obtain ⟨g0, g1, g2, g3, g4⟩ := HK1.out _ hSw; obtain ⟨h0, h1, h2, h3, h4⟩ := HK0.out _ hSw; go_simp <;> with_reducible rfl)
              try simp only [Act.put, List.setIfInBounds_toArray, List.set_cons_zero, List.set_cons_succ]
              refine wpAnyH_take (i := 6) (oi := { dst := some 23, op := _, type := _, pos := _, after := _, guard := _ }) (v := ?_) rfl (by kernel_rfl) (by kernel_rfl) (by kernel_rfl) (fun _ _ _ h => h) (Or.inl ⟨by rfl, ?_⟩) hHeld ?_
              rotate_left
              · (intro w hSw; obtain ⟨g0, g1, g2, g3, g4⟩ := HK1.out _ hSw; obtain ⟨h0, h1, h2, h3, h4⟩ := HK0.out _ hSw; go_simp <;> with_reducible rfl)
              try simp only [Act.put, List.setIfInBounds_toArray, List.set_cons_zero, List.set_cons_succ]
              refine wpAnyH_take (i := 7) (oi := { dst := some 24, op := _, type := _, pos := _, after := _, guard := _ }) (v := ?_) rfl (by kernel_rfl) (by kernel_rfl) (by kernel_rfl) (fun _ _ _ h => h) (Or.inl ⟨by rfl, ?_⟩) hHeld ?_
              rotate_left
              · (intro w hSw; obtain ⟨g0, g1, g2, g3, g4⟩ := HK1.out _ hSw; obtain ⟨h0, h1, h2, h3, h4⟩ := HK0.out _ hSw; go_simp <;> with_reducible rfl)
              try simp only [Act.put, List.setIfInBounds_toArray, List.set_cons_zero, List.set_cons_succ]
              refine wpAnyH_take (i := 8) (oi := { dst := some 25, op := _, type := _, pos := _, after := _, guard := _ }) (v := ?_) rfl (by kernel_rfl) (by kernel_rfl) (by kernel_rfl) (fun _ _ _ h => h) (Or.inl ⟨by rfl, ?_⟩) hHeld ?_
              rotate_left
              · (intro w hSw; obtain ⟨g0, g1, g2, g3, g4⟩ := HK1.out _ hSw; obtain ⟨h0, h1, h2, h3, h4⟩ := HK0.out _ hSw; go_simp <;> with_reducible rfl)
              try simp only [Act.put, List.setIfInBounds_toArray, List.set_cons_zero, List.set_cons_succ]
              refine wpAnyH_done (by kernel_rfl) ?_ _
              have hB2 := hB.trans (hHeld.mono hsz)
              go_wp2_with fail
              go_ret
              exact ⟨retB HN.out.symm, hB2⟩
          · have HN : Hid (decide (l = m) = false) := Lib.hid (by have := HX.out; rw [if_neg (by simp [e1])] at this; exact this)
            clear HX
            go_wp2_with fail
            refine wp_region_held_drew (S := (fun V => Below wr.heap.size wr V)) (by kernel_rfl) (by exact (Below.refl _ _).drew) (fun hHeld => ?_)
            refine wpAnyH_take (i := 0) (oi := { dst := some 17, op := _, type := _, pos := _, after := _, guard := _ }) (v := ?_) rfl (by kernel_rfl) (by kernel_rfl) (by kernel_rfl) (fun _ _ _ h => h) (Or.inl ⟨by rfl, ?_⟩) hHeld ?_
            rotate_left
            · (intro w hSw; obtain ⟨g0, g1, g2, g3, g4⟩ := HK1.out _ hSw; obtain ⟨h0, h1, h2, h3, h4⟩ := HK0.out _ hSw; go_simp <;> with_reducible rfl)
            try simp only [Act.put, List.setIfInBounds_toArray, List.set_cons_zero, List.set_cons_succ]
            refine wpAnyH_take (i := 1) (oi := { dst := some 18, op := _, type := _, pos := _, after := _, guard := _ }) (v := ?_) rfl (by kernel_rfl) (by kernel_rfl) (by kernel_rfl) (fun _ _ _ h => h) (Or.inl ⟨by rfl, ?_⟩) hHeld ?_
            rotate_left
            · (intro w hSw; obtain ⟨g0, g1, g2, g3, g4⟩ := HK1.out _ hSw; obtain ⟨h0, h1, h2, h3, h4⟩ := HK0.out _ hSw; go_simp <;> with_reducible rfl)
            try simp only [Act.put, List.setIfInBounds_toArray, List.set_cons_zero, List.set_cons_succ]
            refine wpAnyH_take (i := 2) (oi := { dst := some 19, op := _, type := _, pos := _, after := _, guard := _ }) (v := ?_) rfl (by kernel_rfl) (by kernel_rfl) (by kernel_rfl) (fun _ _ _ h => h) (Or.inl ⟨by rfl, ?_⟩) hHeld ?_
            rotate_left
            · (intro w hSw; obtain ⟨g0, g1, g2, g3, g4⟩ := HK1.out _ hSw; obtain ⟨h0, h1, h2, h3, h4⟩ := HK0.out _ hSw; go_simp <;> with_reducible rfl)
            try simp only [Act.put, List.setIfInBounds_toArray, List.set_cons_zero, List.set_cons_succ]
            refine wpAnyH_take (i := 3) (oi := { dst := some 20, op := _, type := _, pos := _, after := _, guard := _ }) (v := ?_) rfl (by kernel_rfl) (by kernel_rfl) (by kernel_rfl) (fun _ _ _ h => h) (Or.inl ⟨by rfl, ?_⟩) hHeld ?_
            rotate_left
            · (intro w hSw; obtain ⟨g0, g1, g2, g3, g4⟩ := HK1.out _ hSw; obtain ⟨h0, h1, h2, h3, h4⟩ := HK0.out _ hSw; go_simp <;> with_reducible rfl)
            try simp only [Act.put, List.setIfInBounds_toArray, List.set_cons_zero, List.set_cons_succ]
            refine wpAnyH_take (i := 4) (oi := { dst := some 21, op := _, type := _, pos := _, after := _, guard := _ }) (v := ?_) rfl (by kernel_rfl) (by kernel_rfl) (by kernel_rfl) (fun _ _ _ h => h) (Or.inl ⟨by rfl, ?_⟩) hHeld ?_
            rotate_left
            · (intro w hSw; obtain ⟨g0, g1, g2, g3, g4⟩ := HK1.out _ hSw; obtain ⟨h0, h1, h2, h3, h4⟩ := HK0.out _ hSw; go_simp <;> with_reducible rfl)
            try simp only [Act.put, List.setIfInBounds_toArray, List.set_cons_zero, List.set_cons_succ]
            refine wpAnyH_take (i := 5) (oi := { dst := some 22, op := _, type := _, pos := _, after := _, guard := _ }) (v := ?_) rfl (by kernel_rfl) (by kernel_rfl) (by kernel_rfl) (fun _ _ _ h => h) (Or.inl ⟨by rfl, ?_⟩) hHeld ?_
            rotate_left
            · (intro w hSw; obtain ⟨g0, g1, g2, g3, g4⟩ := HK1.out _ hSw; obtain ⟨h0, h1, h2, h3, h4⟩ := HK0.out _ hSw; go_simp <;> with_reducible rfl)
            try simp only [Act.put, List.setIfInBounds_toArray, List.set_cons_zero, List.set_cons_succ]
            refine wpAnyH_take (i := 6) (oi := { dst := some 23, op := _, type := _, pos := _, after := _, guard := _ }) (v := ?_) rfl (by kernel_rfl) (by kernel_rfl) (by kernel_rfl) (fun _ _ _ h => h) (Or.inl ⟨by rfl, ?_⟩) hHeld ?_
            rotate_left
            · (intro w hSw; obtain ⟨g0, g1, g2, g3, g4⟩ := HK1.out _ hSw; obtain ⟨h0, h1, h2, h3, h4⟩ := HK0.out _ hSw; go_simp <;> with_reducible rfl)
            try simp only [Act.put, List.setIfInBounds_toArray, List.set_cons_zero, List.set_cons_succ]
            refine wpAnyH_take (i := 7) (oi := { dst := some 24, op := _, type := _, pos := _, after := _, guard := _ }) (v := ?_) rfl (by kernel_rfl) (by kernel_rfl) (by kernel_rfl) (fun _ _ _ h => h) (Or.inl ⟨by rfl, ?_⟩) hHeld ?_
            rotate_left
            · (intro w hSw; obtain ⟨g0, g1, g2, g3, g4⟩ := HK1.out _ hSw; obtain ⟨h0, h1, h2, h3, h4⟩ := HK0.out _ hSw; go_simp <;> with_reducible rfl)
            try simp only [Act.put, List.setIfInBounds_toArray, List.set_cons_zero, List.set_cons_succ]
            refine wpAnyH_take (i := 8) (oi := { dst := some 25, op := _, type := _, pos := _, after := _, guard := _ }) (v := ?_) rfl (by kernel_rfl) (by kernel_rfl) (by kernel_rfl) (fun _ _ _ h => h) (Or.inl ⟨by rfl, ?_⟩) hHeld ?_
            rotate_left
            · (intro w hSw; obtain ⟨g0, g1, g2, g3, g4⟩ := HK1.out _ hSw; obtain ⟨h0, h1, h2, h3, h4⟩ := HK0.out _ hSw; go_simp <;> with_reducible rfl)
            try simp only [Act.put, List.setIfInBounds_toArray, List.set_cons_zero, List.set_cons_succ]
            refine wpAnyH_done (by kernel_rfl) ?_ _
            have hB2 := hB.trans (hHeld.mono hsz)
            go_wp2_with fail
            go_ret
            exact ⟨retB HN.out.symm, hB2⟩
        · have HN : Hid (decide (l = m) = false) := Lib.hid (by have := HX.out; rw [if_neg (by simp [e0])] at this; exact this)
          clear HX
          go_wp2_with fail
          refine wp_region_held_drew (S := (fun V => Below wr.heap.size wr V)) (by kernel_rfl) (by exact (Below.refl _ _).drew) (fun hHeld => ?_)
          refine wpAnyH_take (i := 0) (oi := { dst := some 17, op := _, type := _, pos := _, after := _, guard := _ }) (v := ?_) rfl (by kernel_rfl) (by kernel_rfl) (by kernel_rfl) (fun _ _ _ h => h) (Or.inl ⟨by rfl, ?_⟩) hHeld ?_
          rotate_left
          · (intro w hSw; obtain ⟨g0, g1, g2, g3, g4⟩ := HK1.out _ hSw; obtain ⟨h0, h1, h2, h3, h4⟩ := HK0.out _ hSw; go_simp <;> with_reducible rfl)
          try simp only [Act.put, List.setIfInBounds_toArray, List.set_cons_zero, List.set_cons_succ]
          refine wpAnyH_take (i := 1) (oi := { dst := some 18, op := _, type := _, pos := _, after := _, guard := _ }) (v := ?_) rfl (by kernel_rfl) (by kernel_rfl) (by kernel_rfl) (fun _ _ _ h => h) (Or.inl ⟨by rfl, ?_⟩) hHeld ?_
          rotate_left
          · (intro w hSw; obtain ⟨g0, g1, g2, g3, g4⟩ := HK1.out _ hSw; obtain ⟨h0, h1, h2, h3, h4⟩ := HK0.out _ hSw; go_simp <;> with_reducible rfl)
          try simp only [Act.put, List.setIfInBounds_toArray, List.set_cons_zero, List.set_cons_succ]
          refine wpAnyH_take (i := 2) (oi := { dst := some 19, op := _, type := _, pos := _, after := _, guard := _ }) (v := ?_) rfl (by kernel_rfl) (by kernel_rfl) (by kernel_rfl) (fun _ _ _ h => h) (Or.inl ⟨by rfl, ?_⟩) hHeld ?_
          rotate_left
          · (intro w hSw; obtain ⟨g0, g1, g2, g3, g4⟩ := HK1.out _ hSw; obtain ⟨h0, h1, h2, h3, h4⟩ := HK0.out _ hSw; go_simp <;> with_reducible rfl)
          try simp only [Act.put, List.setIfInBounds_toArray, List.set_cons_zero, List.set_cons_succ]
          refine wpAnyH_take (i := 3) (oi := { dst := some 20, op := _, type := _, pos := _, after := _, guard := _ }) (v := ?_) rfl (by kernel_rfl) (by kernel_rfl) (by kernel_rfl) (fun _ _ _ h => h) (Or.inl ⟨by rfl, ?_⟩) hHeld ?_
          rotate_left
          · (intro w hSw; obtain ⟨g0, g1, g2, g3, g4⟩ := HK1.out _ hSw; obtain ⟨h0, h1, h2, h3, h4⟩ := HK0.out _ hSw; go_simp <;> with_reducible rfl)
          try simp only [Act.put, List.setIfInBounds_toArray, List.set_cons_zero, List.set_cons_succ]
          refine wpAnyH_take (i := 4) (oi := { dst := some 21, op := _, type := _, pos := _, after := _, guard := _ }) (v := ?_) rfl (by kernel_rfl) (by kernel_rfl) (by kernel_rfl) (fun _ _ _ h => h) (Or.inl ⟨by rfl, ?_⟩) hHeld ?_
          rotate_left
          · (intro w hSw; obtain ⟨g0, g1, g2, g3, g4⟩ := HK1.out _ hSw; obtain ⟨h0, h1, h2, h3, h4⟩ := HK0.out _ hSw; go_simp <;> with_reducible rfl)
          try simp only [Act.put, List.setIfInBounds_toArray, List.set_cons_zero, List.set_cons_succ]
          refine wpAnyH_take (i := 5) (oi := { dst := some 22, op := _, type := _, pos := _, after := _, guard := _ }) (v := ?_) rfl (by kernel_rfl) (by kernel_rfl) (by kernel_rfl) (fun _ _ _ h => h) (Or.inl ⟨by rfl, ?_⟩) hHeld ?_
          rotate_left
          · (intro w hSw; obtain ⟨g0, g1, g2, g3, g4⟩ := HK1.out _ hSw; obtain ⟨h0, h1, h2, h3, h4⟩ := HK0.out _ hSw; go_simp <;> with_reducible rfl)
          try simp only [Act.put, List.setIfInBounds_toArray, List.set_cons_zero, List.set_cons_succ]
          refine wpAnyH_take (i := 6) (oi := { dst := some 23, op := _, type := _, pos := _, after := _, guard := _ }) (v := ?_) rfl (by kernel_rfl) (by kernel_rfl) (by kernel_rfl) (fun _ _ _ h => h) (Or.inl ⟨by rfl, ?_⟩) hHeld ?_
          rotate_left
          · (intro w hSw; obtain ⟨g0, g1, g2, g3, g4⟩ := HK1.out _ hSw; obtain ⟨h0, h1, h2, h3, h4⟩ := HK0.out _ hSw; go_simp <;> with_reducible rfl)
          try simp only [Act.put, List.setIfInBounds_toArray, List.set_cons_zero, List.set_cons_succ]
          refine wpAnyH_take (i := 7) (oi := { dst := some 24, op := _, type := _, pos := _, after := _, guard := _ }) (v := ?_) rfl (by kernel_rfl) (by kernel_rfl) (by kernel_rfl) (fun _ _ _ h => h) (Or.inl ⟨by rfl, ?_⟩) hHeld ?_
          rotate_left
          · (intro w hSw; obtain ⟨g0, g1, g2, g3, g4⟩ := HK1.out _ hSw; obtain ⟨h0, h1, h2, h3, h4⟩ := HK0.out _ hSw; go_simp <;> with_reducible rfl)
          try simp only [Act.put, List.setIfInBounds_toArray, List.set_cons_zero, List.set_cons_succ]
          refine wpAnyH_take (i := 8) (oi := { dst := some 25, op := _, type := _, pos := _, after := _, guard := _ }) (v := ?_) rfl (by kernel_rfl) (by kernel_rfl) (by kernel_rfl) (fun _ _ _ h => h) (Or.inl ⟨by rfl, ?_⟩) hHeld ?_
          rotate_left
          · (intro w hSw; obtain ⟨g0, g1, g2, g3, g4⟩ := HK1.out _ hSw; obtain ⟨h0, h1, h2, h3, h4⟩ := HK0.out _ hSw; go_simp <;> with_reducible rfl)
          try simp only [Act.put, List.setIfInBounds_toArray, List.set_cons_zero, List.set_cons_succ]
          refine wpAnyH_done (by kernel_rfl) ?_ _
          have hB2 := hB.trans (hHeld.mono hsz)
          go_wp2_with fail
          go_ret
          exact ⟨retB HN.out.symm, hB2⟩
      · have HE := Lib.hid (show decide (l = m) = true from decide_eq_true (list_eq_of HLM.out fun j h1 h2 => hno j h1 h2 (by omega)))
        clear hno
        go_wp2_with fail
        go_ret
        exact ⟨retB HE.out.symm, hB⟩
  · have HE := Lib.hid (show decide (l = m) = false from decide_eq_false fun e => hlen (by rw [e]))
    have hlen2 : ¬ ((l.length : Int) = (m.length : Int)) := by omega
    have hlen3 : ((l.length : Int) != (m.length : Int)) = true := by simpa using hlen2
    clear hlen
    go_enter Try.func27, Try.ntmps27
    go_wp2_with fail
    go_ret
    exact ⟨retB HE.out.symm, Below.refl _ _⟩

set_option maxHeartbeats 4000000 in
theorem eready_any (A : Option Addr) (cap : Nat) (l : List Ch) (a c : Int) (w : World) (hl : l.length ≤ 1000000) (hs : Sl w A (rc Ch.cells l)) :
    Calls Try.prog 36 #[.slice A l.length cap, unitV a c] w fun e w' => e = .returned (.tuple #[unitV (readyR l a c).1 (readyR l a c).2.1, .int .i64 (readyR l a c).2.2]) ∧ Below w.heap.size w w' := by
  unfold unitV
  have hB0 := since_alloc (since_alloc (Below.refl _ w) (.cells #[.int .i64 a, .int .i64 c] 44)) (.cells #[.int .i64 0, .int .i64 0] 44)
  have hU0 := UAt.new (w.alloc (.cells #[.int .i64 a, .int .i64 c] 44)) 0 0 44
  rw [World.size_alloc] at hU0
  have hfz0 : ∀ i, ((w.alloc (.cells #[.int .i64 a, .int .i64 c] 44)).alloc (.cells #[.int .i64 0, .int .i64 0] 44)).frozen? ⟨w.heap.size + 1, i, none⟩ = false := fun i => by simp
  have HFN := Lib.hid (fun W h => efind_any A cap l a c W hl h)
  obtain ⟨q, hq⟩ : ∃ q, hasC l a c = q := ⟨_, rfl⟩
  obtain ⟨v, hv⟩ : ∃ v, findC l a c = v := ⟨_, rfl⟩
  have HR : Hid (readyR l a c = if q = true then (if v.con = true then (v.ta, v.tc, 0) else (0, 0, 20)) else (0, 0, 19)) := Lib.hid (by rw [readyR, hq, hv])
  have HQ := Lib.hid hq
  have HV := Lib.hid hv
  clear hq hv
  obtain ⟨fa, fc, ta, tc, con⟩ := v
  cases q <;> cases con
  · go_enter Try.func36, Try.ntmps36
    go_wp2_with fail
    refine (HFN.out _ ((hs.alloc _).alloc _)).mono ?_
    rintro e w1 ⟨rfl, hb1⟩
    have hB1 := since_step hB0 hb1
    obtain ⟨lu, q0, q1⟩ := hU0.below hb1
    have hfz : ∀ i, w1.frozen? ⟨w.heap.size + 1, i, none⟩ = false := fun i => by rw [(hb1.frozen (p := ⟨w.heap.size + 1, i, none⟩) hU0.1)]; exact hfz0 i
    have hcs := @cell_set
    clear hb1 hs hfz0 hU0
    rw [HQ.out, HV.out]
    unfold Ch.val
    go_wp2_with fail
    refine bodyPost_ret (v := .tuple #[.agg #[.int .i64 0, .int .i64 0], .int .i64 19]) ?_ rfl ⟨?_, ?_⟩
    rotate_left
    · rw [HR.out]; rfl
    · repeat' (first | with_reducible exact hB1 | with_reducible refine Below.drew ?_ | with_reducible refine Below.setCell ?_ ?_ _ | with_reducible refine Below.alloc ?_ ?_ _)
      all_goals first | (simp; done) | (simp; omega)
    · have hca : ∀ (V : World) (o : Obj) (i : Nat), w.heap.size + 1 < V.heap.size → (V.alloc o).cell? ⟨w.heap.size + 1, i, none⟩ = V.cell? ⟨w.heap.size + 1, i, none⟩ := fun V o i h => World.cell?_alloc_lt V o ⟨w.heap.size + 1, i, none⟩ h
      simp [results, Try.results36, go_sem, q0, q1, hfz, hca, lu]
  · go_enter Try.func36, Try.ntmps36
    go_wp2_with fail
    refine (HFN.out _ ((hs.alloc _).alloc _)).mono ?_
    rintro e w1 ⟨rfl, hb1⟩
    have hB1 := since_step hB0 hb1
    obtain ⟨lu, q0, q1⟩ := hU0.below hb1
    have hfz : ∀ i, w1.frozen? ⟨w.heap.size + 1, i, none⟩ = false := fun i => by rw [(hb1.frozen (p := ⟨w.heap.size + 1, i, none⟩) hU0.1)]; exact hfz0 i
    have hcs := @cell_set
    clear hb1 hs hfz0 hU0
    rw [HQ.out, HV.out]
    unfold Ch.val
    go_wp2_with fail
    refine bodyPost_ret (v := .tuple #[.agg #[.int .i64 0, .int .i64 0], .int .i64 19]) ?_ rfl ⟨?_, ?_⟩
    rotate_left
    · rw [HR.out]; rfl
    · repeat' (first | with_reducible exact hB1 | with_reducible refine Below.drew ?_ | with_reducible refine Below.setCell ?_ ?_ _ | with_reducible refine Below.alloc ?_ ?_ _)
      all_goals first | (simp; done) | (simp; omega)
    · have hca : ∀ (V : World) (o : Obj) (i : Nat), w.heap.size + 1 < V.heap.size → (V.alloc o).cell? ⟨w.heap.size + 1, i, none⟩ = V.cell? ⟨w.heap.size + 1, i, none⟩ := fun V o i h => World.cell?_alloc_lt V o ⟨w.heap.size + 1, i, none⟩ h
      simp [results, Try.results36, go_sem, q0, q1, hfz, hca, lu]
  · go_enter Try.func36, Try.ntmps36
    go_wp2_with fail
    refine (HFN.out _ ((hs.alloc _).alloc _)).mono ?_
    rintro e w1 ⟨rfl, hb1⟩
    have hB1 := since_step hB0 hb1
    obtain ⟨lu, q0, q1⟩ := hU0.below hb1
    have hfz : ∀ i, w1.frozen? ⟨w.heap.size + 1, i, none⟩ = false := fun i => by rw [(hb1.frozen (p := ⟨w.heap.size + 1, i, none⟩) hU0.1)]; exact hfz0 i
    have hcs := @cell_set
    clear hb1 hs hfz0 hU0
    rw [HQ.out, HV.out]
    unfold Ch.val
    go_wp2_with fail
    refine bodyPost_ret (v := .tuple #[.agg #[.int .i64 0, .int .i64 0], .int .i64 20]) ?_ rfl ⟨?_, ?_⟩
    rotate_left
    · rw [HR.out]; rfl
    · repeat' (first | with_reducible exact hB1 | with_reducible refine Below.drew ?_ | with_reducible refine Below.setCell ?_ ?_ _ | with_reducible refine Below.alloc ?_ ?_ _)
      all_goals first | (simp; done) | (simp; omega)
    · have hca : ∀ (V : World) (o : Obj) (i : Nat), w.heap.size + 1 < V.heap.size → (V.alloc o).cell? ⟨w.heap.size + 1, i, none⟩ = V.cell? ⟨w.heap.size + 1, i, none⟩ := fun V o i h => World.cell?_alloc_lt V o ⟨w.heap.size + 1, i, none⟩ h
      simp [results, Try.results36, go_sem, q0, q1, hfz, hca, lu]
  · go_enter Try.func36, Try.ntmps36
    go_wp2_with fail
    refine (HFN.out _ ((hs.alloc _).alloc _)).mono ?_
    rintro e w1 ⟨rfl, hb1⟩
    have hB1 := since_step hB0 hb1
    obtain ⟨lu, q0, q1⟩ := hU0.below hb1
    have hfz : ∀ i, w1.frozen? ⟨w.heap.size + 1, i, none⟩ = false := fun i => by rw [(hb1.frozen (p := ⟨w.heap.size + 1, i, none⟩) hU0.1)]; exact hfz0 i
    have hcs := @cell_set
    clear hb1 hs hfz0 hU0
    rw [HQ.out, HV.out]
    unfold Ch.val
    go_wp2_with fail
    refine bodyPost_ret (v := .tuple #[.agg #[.int .i64 ta, .int .i64 tc], .int .i64 0]) ?_ rfl ⟨?_, ?_⟩
    rotate_left
    · rw [HR.out]; rfl
    · repeat' (first | with_reducible exact hB1 | with_reducible refine Below.drew ?_ | with_reducible refine Below.setCell ?_ ?_ _ | with_reducible refine Below.alloc ?_ ?_ _)
      all_goals first | (simp; done) | (simp; omega)
    · have hca : ∀ (V : World) (o : Obj) (i : Nat), w.heap.size + 1 < V.heap.size → (V.alloc o).cell? ⟨w.heap.size + 1, i, none⟩ = V.cell? ⟨w.heap.size + 1, i, none⟩ := fun V o i h => World.cell?_alloc_lt V o ⟨w.heap.size + 1, i, none⟩ h
      simp [results, Try.results36, go_sem, q0, q1, hfz, hca, lu]

set_option maxHeartbeats 4000000 in
theorem rready_any (A : Option Addr) (cap : Nat) (l : List Ch) (a c : Int) (w : World) (hl : l.length ≤ 1000000) (hs : Sl w A (rc Ch.cells l)) :
    Calls Try.prog 37 #[.slice A l.length cap, unitV a c] w fun e w' => e = .returned (.tuple #[unitV (readyR l a c).1 (readyR l a c).2.1, .int .i64 (readyR l a c).2.2]) ∧ Below w.heap.size w w' := by
  unfold unitV
  have hB0 := since_alloc (since_alloc (Below.refl _ w) (.cells #[.int .i64 a, .int .i64 c] 44)) (.cells #[.int .i64 0, .int .i64 0] 44)
  have hU0 := UAt.new (w.alloc (.cells #[.int .i64 a, .int .i64 c] 44)) 0 0 44
  rw [World.size_alloc] at hU0
  have hfz0 : ∀ i, ((w.alloc (.cells #[.int .i64 a, .int .i64 c] 44)).alloc (.cells #[.int .i64 0, .int .i64 0] 44)).frozen? ⟨w.heap.size + 1, i, none⟩ = false := fun i => by simp
  have HFN := Lib.hid (fun W h => rfind_any A cap l a c W hl h)
  obtain ⟨q, hq⟩ : ∃ q, hasC l a c = q := ⟨_, rfl⟩
  obtain ⟨v, hv⟩ : ∃ v, findC l a c = v := ⟨_, rfl⟩
  have HR : Hid (readyR l a c = if q = true then (if v.con = true then (v.ta, v.tc, 0) else (0, 0, 20)) else (0, 0, 19)) := Lib.hid (by rw [readyR, hq, hv])
  have HQ := Lib.hid hq
  have HV := Lib.hid hv
  clear hq hv
  obtain ⟨fa, fc, ta, tc, con⟩ := v
  cases q <;> cases con
  · go_enter Try.func37, Try.ntmps37
    go_wp2_with fail
    refine (HFN.out _ ((hs.alloc _).alloc _)).mono ?_
    rintro e w1 ⟨rfl, hb1⟩
    have hB1 := since_step hB0 hb1
    obtain ⟨lu, q0, q1⟩ := hU0.below hb1
    have hfz : ∀ i, w1.frozen? ⟨w.heap.size + 1, i, none⟩ = false := fun i => by rw [(hb1.frozen (p := ⟨w.heap.size + 1, i, none⟩) hU0.1)]; exact hfz0 i
    have hcs := @cell_set
    clear hb1 hs hfz0 hU0
    rw [HQ.out, HV.out]
    unfold Ch.val
    go_wp2_with fail
    refine bodyPost_ret (v := .tuple #[.agg #[.int .i64 0, .int .i64 0], .int .i64 19]) ?_ rfl ⟨?_, ?_⟩
    rotate_left
    · rw [HR.out]; rfl
    · repeat' (first | with_reducible exact hB1 | with_reducible refine Below.drew ?_ | with_reducible refine Below.setCell ?_ ?_ _ | with_reducible refine Below.alloc ?_ ?_ _)
      all_goals first | (simp; done) | (simp; omega)
    · have hca : ∀ (V : World) (o : Obj) (i : Nat), w.heap.size + 1 < V.heap.size → (V.alloc o).cell? ⟨w.heap.size + 1, i, none⟩ = V.cell? ⟨w.heap.size + 1, i, none⟩ := fun V o i h => World.cell?_alloc_lt V o ⟨w.heap.size + 1, i, none⟩ h
      simp [results, Try.results37, go_sem, q0, q1, hfz, hca, lu]
  · go_enter Try.func37, Try.ntmps37
    go_wp2_with fail
    refine (HFN.out _ ((hs.alloc _).alloc _)).mono ?_
    rintro e w1 ⟨rfl, hb1⟩
    have hB1 := since_step hB0 hb1
    obtain ⟨lu, q0, q1⟩ := hU0.below hb1
    have hfz : ∀ i, w1.frozen? ⟨w.heap.size + 1, i, none⟩ = false := fun i => by rw [(hb1.frozen (p := ⟨w.heap.size + 1, i, none⟩) hU0.1)]; exact hfz0 i
    have hcs := @cell_set
    clear hb1 hs hfz0 hU0
    rw [HQ.out, HV.out]
    unfold Ch.val
    go_wp2_with fail
    refine bodyPost_ret (v := .tuple #[.agg #[.int .i64 0, .int .i64 0], .int .i64 19]) ?_ rfl ⟨?_, ?_⟩
    rotate_left
    · rw [HR.out]; rfl
    · repeat' (first | with_reducible exact hB1 | with_reducible refine Below.drew ?_ | with_reducible refine Below.setCell ?_ ?_ _ | with_reducible refine Below.alloc ?_ ?_ _)
      all_goals first | (simp; done) | (simp; omega)
    · have hca : ∀ (V : World) (o : Obj) (i : Nat), w.heap.size + 1 < V.heap.size → (V.alloc o).cell? ⟨w.heap.size + 1, i, none⟩ = V.cell? ⟨w.heap.size + 1, i, none⟩ := fun V o i h => World.cell?_alloc_lt V o ⟨w.heap.size + 1, i, none⟩ h
      simp [results, Try.results37, go_sem, q0, q1, hfz, hca, lu]
  · go_enter Try.func37, Try.ntmps37
    go_wp2_with fail
    refine (HFN.out _ ((hs.alloc _).alloc _)).mono ?_
    rintro e w1 ⟨rfl, hb1⟩
    have hB1 := since_step hB0 hb1
    obtain ⟨lu, q0, q1⟩ := hU0.below hb1
    have hfz : ∀ i, w1.frozen? ⟨w.heap.size + 1, i, none⟩ = false := fun i => by rw [(hb1.frozen (p := ⟨w.heap.size + 1, i, none⟩) hU0.1)]; exact hfz0 i
    have hcs := @cell_set
    clear hb1 hs hfz0 hU0
    rw [HQ.out, HV.out]
    unfold Ch.val
    go_wp2_with fail
    refine bodyPost_ret (v := .tuple #[.agg #[.int .i64 0, .int .i64 0], .int .i64 20]) ?_ rfl ⟨?_, ?_⟩
    rotate_left
    · rw [HR.out]; rfl
    · repeat' (first | with_reducible exact hB1 | with_reducible refine Below.drew ?_ | with_reducible refine Below.setCell ?_ ?_ _ | with_reducible refine Below.alloc ?_ ?_ _)
      all_goals first | (simp; done) | (simp; omega)
    · have hca : ∀ (V : World) (o : Obj) (i : Nat), w.heap.size + 1 < V.heap.size → (V.alloc o).cell? ⟨w.heap.size + 1, i, none⟩ = V.cell? ⟨w.heap.size + 1, i, none⟩ := fun V o i h => World.cell?_alloc_lt V o ⟨w.heap.size + 1, i, none⟩ h
      simp [results, Try.results37, go_sem, q0, q1, hfz, hca, lu]
  · go_enter Try.func37, Try.ntmps37
    go_wp2_with fail
    refine (HFN.out _ ((hs.alloc _).alloc _)).mono ?_
    rintro e w1 ⟨rfl, hb1⟩
    have hB1 := since_step hB0 hb1
    obtain ⟨lu, q0, q1⟩ := hU0.below hb1
    have hfz : ∀ i, w1.frozen? ⟨w.heap.size + 1, i, none⟩ = false := fun i => by rw [(hb1.frozen (p := ⟨w.heap.size + 1, i, none⟩) hU0.1)]; exact hfz0 i
    have hcs := @cell_set
    clear hb1 hs hfz0 hU0
    rw [HQ.out, HV.out]
    unfold Ch.val
    go_wp2_with fail
    refine bodyPost_ret (v := .tuple #[.agg #[.int .i64 ta, .int .i64 tc], .int .i64 0]) ?_ rfl ⟨?_, ?_⟩
    rotate_left
    · rw [HR.out]; rfl
    · repeat' (first | with_reducible exact hB1 | with_reducible refine Below.drew ?_ | with_reducible refine Below.setCell ?_ ?_ _ | with_reducible refine Below.alloc ?_ ?_ _)
      all_goals first | (simp; done) | (simp; omega)
    · have hca : ∀ (V : World) (o : Obj) (i : Nat), w.heap.size + 1 < V.heap.size → (V.alloc o).cell? ⟨w.heap.size + 1, i, none⟩ = V.cell? ⟨w.heap.size + 1, i, none⟩ := fun V o i h => World.cell?_alloc_lt V o ⟨w.heap.size + 1, i, none⟩ h
      simp [results, Try.results37, go_sem, q0, q1, hfz, hca, lu]
end Go.Proofs.Ytniapgcohihkhaa
