import Derived.Test.YtldnponbkhgijaaPurse7J
import Derived.Test.YtldnponbkhgijaaFixJ
/-
  Layer 17, eighth part: Same, Move, lives; PursePays, PurseTurns (laid by gen_purse8.py).
-/
namespace Go.Proofs.Ytldnponbkhgijaa
open Go.ChangeShapes Go.WideShapes Go.ChangeAt Go.RowKit
set_option linter.unusedVariables false
set_option linter.unusedSimpArgs false

theorem list_eq_ofP {α : Type} {a b : List α} (hl : a.length = b.length) (h : ∀ j, (h1 : j < a.length) → (h2 : j < b.length) → a[j] = b[j]) : a = b := List.ext_getElem hl fun j h1 h2 => h j h1 h2
set_option maxHeartbeats 4000000 in
set_option maxRecDepth 100000 in
theorem rpsame_any (A A2 : Option Addr) (cap cap2 : Nat) (l m : List Fw) (w : World) (hl : l.length ≤ 1000000) (hs : Sl w A (rc Fw.cells l)) (hs2 : Sl w A2 (rc Fw.cells m)) :
    Calls Try.prog 25 #[.slice A l.length cap, .slice A2 m.length cap2] w fun e w' => e = .returned (.bool (decide (l = m))) ∧ Below w.heap.size w w' := by
  by_cases hlen : l.length = m.length
  · go_enter Try.func25, Try.ntmps25
    rw [← hlen]
    have HLM := Lib.hid hlen
    clear hlen
    go_wp2_with fail
    go_loopw [5] (fun i wr => ∃ k : Nat, k ≤ l.length ∧ i = .int .i64 k ∧ (∀ j, (h1 : j < l.length) → (h2 : j < m.length) → j < k → l[j] = m[j]) ∧ Below w.heap.size w wr) (fun i _ => l.length - (intOf i).toNat)
    case atStart => exact ⟨0, by omega, rfl, fun j _ _ h => absurd h (by omega), Below.refl _ _⟩
    case round =>
      obtain ⟨k, hk, rfl, hno, hB⟩ := hrel
      by_cases hlt : k < l.length
      · have hlt2 : k < m.length := by rw [← HLM.out]; exact hlt
        obtain ⟨b, o, rfl, hbw, hg⟩ := hs.fw hlt
        obtain ⟨b2, o2, rfl, hbw2, hg2⟩ := hs2.fw hlt2
        have hbr : b < wr.heap.size := Nat.lt_of_lt_of_le hbw hB.size
        have hbr2 : b2 < wr.heap.size := Nat.lt_of_lt_of_le hbw2 hB.size
        have hsz : w.heap.size ≤ wr.heap.size := hB.size
        have HK1 : Hid (∀ V, Below wr.heap.size wr V → l[k].at V b (o + k * 3)) := Lib.hid fun V hV =>
          Fw.at_keep hg fun i => (hV.cell (p := ⟨b, i, none⟩) hbr).trans (hB.cell (p := ⟨b, i, none⟩) hbw)
        have HK0 : Hid (∀ V, Below wr.heap.size wr V → m[k].at V b2 (o2 + k * 3)) := Lib.hid fun V hV =>
          Fw.at_keep hg2 fun i => (hV.cell (p := ⟨b2, i, none⟩) hbr2).trans (hB.cell (p := ⟨b2, i, none⟩) hbw2)
        have HX : Hid (if l[k] = m[k] then (∀ j, (h1 : j < l.length) → (h2 : j < m.length) → j < k + 1 → l[j] = m[j]) else decide (l = m) = false) := Lib.hid (by
          split
          · rename_i he
            intro j h1 h2 hj
            rcases Nat.lt_or_ge j k with h | h
            · exact hno j h1 h2 h
            · obtain rfl : j = k := by omega
              exact he
          · rename_i he
            rw [decide_eq_false]
            intro e
            subst e
            exact he rfl)
        have hlk : (k : Int) < (l.length : Int) := by omega
        clear hno hs hs2 hg hg2 hbw hbw2
        generalize l[k] = v at HK1 HX
        generalize m[k] = u at HK0 HX
        obtain ⟨f0, f1, f2⟩ := v
        obtain ⟨e0, e1, e2⟩ := u
        unfold Fw.at at HK1 HK0
        simp only at HK1 HK0
        by_cases d0 : f0 = e0
        · subst d0
          by_cases d1 : f1 = e1
          · subst d1
            by_cases d2 : f2 = e2
            · subst d2
              have HN : Hid (∀ j, (h1 : j < l.length) → (h2 : j < m.length) → j < k + 1 → l[j] = m[j]) := Lib.hid (by have := HX.out; rw [if_pos rfl] at this; exact this)
              clear HX
              go_wp2_with fail
              refine wp_region_held_drew (S := (fun V => Below wr.heap.size wr V)) (by kernel_rfl) (by exact (Below.refl _ _).drew) (fun hHeld => ?_)
              refine wpAnyH_take (i := 0) (oi := { dst := some 17, op := _, type := _, pos := _, after := _, guard := _ }) (v := ?_) rfl (by kernel_rfl) (by kernel_rfl) (by kernel_rfl) (fun _ _ _ h => h) (Or.inl ⟨by rfl, ?_⟩) hHeld ?_
              rotate_left
              · (intro w hSw; obtain ⟨g0, g1, g2⟩ := HK1.out _ hSw; obtain ⟨h0, h1, h2⟩ := HK0.out _ hSw; go_simp <;> with_reducible rfl)
              try simp only [Act.put, List.setIfInBounds_toArray, List.set_cons_zero, List.set_cons_succ]
              refine wpAnyH_take (i := 1) (oi := { dst := some 18, op := _, type := _, pos := _, after := _, guard := _ }) (v := ?_) rfl (by kernel_rfl) (by kernel_rfl) (by kernel_rfl) (fun _ _ _ h => h) (Or.inl ⟨by rfl, ?_⟩) hHeld ?_
              rotate_left
              · (intro w hSw; obtain ⟨g0, g1, g2⟩ := HK1.out _ hSw; obtain ⟨h0, h1, h2⟩ := HK0.out _ hSw; go_simp <;> with_reducible rfl)
              try simp only [Act.put, List.setIfInBounds_toArray, List.set_cons_zero, List.set_cons_succ]
              refine wpAnyH_take (i := 2) (oi := { dst := some 19, op := _, type := _, pos := _, after := _, guard := _ }) (v := ?_) rfl (by kernel_rfl) (by kernel_rfl) (by kernel_rfl) (fun _ _ _ h => h) (Or.inl ⟨by rfl, ?_⟩) hHeld ?_
              rotate_left
              · (intro w hSw; obtain ⟨g0, g1, g2⟩ := HK1.out _ hSw; obtain ⟨h0, h1, h2⟩ := HK0.out _ hSw; go_simp <;> with_reducible rfl)
              try simp only [Act.put, List.setIfInBounds_toArray, List.set_cons_zero, List.set_cons_succ]
              refine wpAnyH_take (i := 3) (oi := { dst := some 20, op := _, type := _, pos := _, after := _, guard := _ }) (v := ?_) rfl (by kernel_rfl) (by kernel_rfl) (by kernel_rfl) (fun _ _ _ h => h) (Or.inl ⟨by rfl, ?_⟩) hHeld ?_
              rotate_left
              · (intro w hSw; obtain ⟨g0, g1, g2⟩ := HK1.out _ hSw; obtain ⟨h0, h1, h2⟩ := HK0.out _ hSw; go_simp <;> with_reducible rfl)
              try simp only [Act.put, List.setIfInBounds_toArray, List.set_cons_zero, List.set_cons_succ]
              refine wpAnyH_take (i := 4) (oi := { dst := some 21, op := _, type := _, pos := _, after := _, guard := _ }) (v := ?_) rfl (by kernel_rfl) (by kernel_rfl) (by kernel_rfl) (fun _ _ _ h => h) (Or.inl ⟨by rfl, ?_⟩) hHeld ?_
              rotate_left
              · (intro w hSw; obtain ⟨g0, g1, g2⟩ := HK1.out _ hSw; obtain ⟨h0, h1, h2⟩ := HK0.out _ hSw; go_simp <;> with_reducible rfl)
              try simp only [Act.put, List.setIfInBounds_toArray, List.set_cons_zero, List.set_cons_succ]
              refine wpAnyH_take (i := 5) (oi := { dst := some 22, op := _, type := _, pos := _, after := _, guard := _ }) (v := ?_) rfl (by kernel_rfl) (by kernel_rfl) (by kernel_rfl) (fun _ _ _ h => h) (Or.inl ⟨by rfl, ?_⟩) hHeld ?_
              rotate_left
              · (intro w hSw; obtain ⟨g0, g1, g2⟩ := HK1.out _ hSw; obtain ⟨h0, h1, h2⟩ := HK0.out _ hSw; go_simp <;> with_reducible rfl)
              try simp only [Act.put, List.setIfInBounds_toArray, List.set_cons_zero, List.set_cons_succ]
              refine wpAnyH_take (i := 6) (oi := { dst := some 23, op := _, type := _, pos := _, after := _, guard := _ }) (v := ?_) rfl (by kernel_rfl) (by kernel_rfl) (by kernel_rfl) (fun _ _ _ h => h) (Or.inl ⟨by rfl, ?_⟩) hHeld ?_
              rotate_left
              · (intro w hSw; obtain ⟨g0, g1, g2⟩ := HK1.out _ hSw; obtain ⟨h0, h1, h2⟩ := HK0.out _ hSw; go_simp <;> with_reducible rfl)
              try simp only [Act.put, List.setIfInBounds_toArray, List.set_cons_zero, List.set_cons_succ]
              refine wpAnyH_take (i := 7) (oi := { dst := some 24, op := _, type := _, pos := _, after := _, guard := _ }) (v := ?_) rfl (by kernel_rfl) (by kernel_rfl) (by kernel_rfl) (fun _ _ _ h => h) (Or.inl ⟨by rfl, ?_⟩) hHeld ?_
              rotate_left
              · (intro w hSw; obtain ⟨g0, g1, g2⟩ := HK1.out _ hSw; obtain ⟨h0, h1, h2⟩ := HK0.out _ hSw; go_simp <;> with_reducible rfl)
              try simp only [Act.put, List.setIfInBounds_toArray, List.set_cons_zero, List.set_cons_succ]
              refine wpAnyH_take (i := 8) (oi := { dst := some 25, op := _, type := _, pos := _, after := _, guard := _ }) (v := ?_) rfl (by kernel_rfl) (by kernel_rfl) (by kernel_rfl) (fun _ _ _ h => h) (Or.inl ⟨by rfl, ?_⟩) hHeld ?_
              rotate_left
              · (intro w hSw; obtain ⟨g0, g1, g2⟩ := HK1.out _ hSw; obtain ⟨h0, h1, h2⟩ := HK0.out _ hSw; go_simp <;> with_reducible rfl)
              try simp only [Act.put, List.setIfInBounds_toArray, List.set_cons_zero, List.set_cons_succ]
              refine wpAnyH_done (by kernel_rfl) ?_ _
              have hB2 := hB.trans (hHeld.mono hsz)
              go_wp2_with fail
              go_roundw
              case rel => exact ⟨k + 1, by omega, by go_num, HN.out, hB2⟩
              case measure => simp [intOf]; omega
            · have HN : Hid (decide (l = m) = false) := Lib.hid (by have := HX.out; rw [if_neg (by simp [d2])] at this; exact this)
              clear HX
              go_wp2_with fail
              refine wp_region_held_drew (S := (fun V => Below wr.heap.size wr V)) (by kernel_rfl) (by exact (Below.refl _ _).drew) (fun hHeld => ?_)
              refine wpAnyH_take (i := 0) (oi := { dst := some 17, op := _, type := _, pos := _, after := _, guard := _ }) (v := ?_) rfl (by kernel_rfl) (by kernel_rfl) (by kernel_rfl) (fun _ _ _ h => h) (Or.inl ⟨by rfl, ?_⟩) hHeld ?_
              rotate_left
              · (intro w hSw; obtain ⟨g0, g1, g2⟩ := HK1.out _ hSw; obtain ⟨h0, h1, h2⟩ := HK0.out _ hSw; go_simp <;> with_reducible rfl)
              try simp only [Act.put, List.setIfInBounds_toArray, List.set_cons_zero, List.set_cons_succ]
              refine wpAnyH_take (i := 1) (oi := { dst := some 18, op := _, type := _, pos := _, after := _, guard := _ }) (v := ?_) rfl (by kernel_rfl) (by kernel_rfl) (by kernel_rfl) (fun _ _ _ h => h) (Or.inl ⟨by rfl, ?_⟩) hHeld ?_
              rotate_left
              · (intro w hSw; obtain ⟨g0, g1, g2⟩ := HK1.out _ hSw; obtain ⟨h0, h1, h2⟩ := HK0.out _ hSw; go_simp <;> with_reducible rfl)
              try simp only [Act.put, List.setIfInBounds_toArray, List.set_cons_zero, List.set_cons_succ]
              refine wpAnyH_take (i := 2) (oi := { dst := some 19, op := _, type := _, pos := _, after := _, guard := _ }) (v := ?_) rfl (by kernel_rfl) (by kernel_rfl) (by kernel_rfl) (fun _ _ _ h => h) (Or.inl ⟨by rfl, ?_⟩) hHeld ?_
              rotate_left
              · (intro w hSw; obtain ⟨g0, g1, g2⟩ := HK1.out _ hSw; obtain ⟨h0, h1, h2⟩ := HK0.out _ hSw; go_simp <;> with_reducible rfl)
              try simp only [Act.put, List.setIfInBounds_toArray, List.set_cons_zero, List.set_cons_succ]
              refine wpAnyH_take (i := 3) (oi := { dst := some 20, op := _, type := _, pos := _, after := _, guard := _ }) (v := ?_) rfl (by kernel_rfl) (by kernel_rfl) (by kernel_rfl) (fun _ _ _ h => h) (Or.inl ⟨by rfl, ?_⟩) hHeld ?_
              rotate_left
              · (intro w hSw; obtain ⟨g0, g1, g2⟩ := HK1.out _ hSw; obtain ⟨h0, h1, h2⟩ := HK0.out _ hSw; go_simp <;> with_reducible rfl)
              try simp only [Act.put, List.setIfInBounds_toArray, List.set_cons_zero, List.set_cons_succ]
              refine wpAnyH_take (i := 4) (oi := { dst := some 21, op := _, type := _, pos := _, after := _, guard := _ }) (v := ?_) rfl (by kernel_rfl) (by kernel_rfl) (by kernel_rfl) (fun _ _ _ h => h) (Or.inl ⟨by rfl, ?_⟩) hHeld ?_
              rotate_left
              · (intro w hSw; obtain ⟨g0, g1, g2⟩ := HK1.out _ hSw; obtain ⟨h0, h1, h2⟩ := HK0.out _ hSw; go_simp <;> with_reducible rfl)
              try simp only [Act.put, List.setIfInBounds_toArray, List.set_cons_zero, List.set_cons_succ]
              refine wpAnyH_take (i := 5) (oi := { dst := some 22, op := _, type := _, pos := _, after := _, guard := _ }) (v := ?_) rfl (by kernel_rfl) (by kernel_rfl) (by kernel_rfl) (fun _ _ _ h => h) (Or.inl ⟨by rfl, ?_⟩) hHeld ?_
              rotate_left
              · (intro w hSw; obtain ⟨g0, g1, g2⟩ := HK1.out _ hSw; obtain ⟨h0, h1, h2⟩ := HK0.out _ hSw; go_simp <;> with_reducible rfl)
              try simp only [Act.put, List.setIfInBounds_toArray, List.set_cons_zero, List.set_cons_succ]
              refine wpAnyH_take (i := 6) (oi := { dst := some 23, op := _, type := _, pos := _, after := _, guard := _ }) (v := ?_) rfl (by kernel_rfl) (by kernel_rfl) (by kernel_rfl) (fun _ _ _ h => h) (Or.inl ⟨by rfl, ?_⟩) hHeld ?_
              rotate_left
              · (intro w hSw; obtain ⟨g0, g1, g2⟩ := HK1.out _ hSw; obtain ⟨h0, h1, h2⟩ := HK0.out _ hSw; go_simp <;> with_reducible rfl)
              try simp only [Act.put, List.setIfInBounds_toArray, List.set_cons_zero, List.set_cons_succ]
              refine wpAnyH_take (i := 7) (oi := { dst := some 24, op := _, type := _, pos := _, after := _, guard := _ }) (v := ?_) rfl (by kernel_rfl) (by kernel_rfl) (by kernel_rfl) (fun _ _ _ h => h) (Or.inl ⟨by rfl, ?_⟩) hHeld ?_
              rotate_left
              · (intro w hSw; obtain ⟨g0, g1, g2⟩ := HK1.out _ hSw; obtain ⟨h0, h1, h2⟩ := HK0.out _ hSw; go_simp <;> with_reducible rfl)
              try simp only [Act.put, List.setIfInBounds_toArray, List.set_cons_zero, List.set_cons_succ]
              refine wpAnyH_take (i := 8) (oi := { dst := some 25, op := _, type := _, pos := _, after := _, guard := _ }) (v := ?_) rfl (by kernel_rfl) (by kernel_rfl) (by kernel_rfl) (fun _ _ _ h => h) (Or.inl ⟨by rfl, ?_⟩) hHeld ?_
              rotate_left
              · (intro w hSw; obtain ⟨g0, g1, g2⟩ := HK1.out _ hSw; obtain ⟨h0, h1, h2⟩ := HK0.out _ hSw; go_simp <;> with_reducible rfl)
              try simp only [Act.put, List.setIfInBounds_toArray, List.set_cons_zero, List.set_cons_succ]
              refine wpAnyH_done (by kernel_rfl) ?_ _
              have hB2 := hB.trans (hHeld.mono hsz)
              go_wp2_with fail
              go_ret
              exact ⟨retB HN.out.symm, hB2⟩
          · have HN : Hid (decide (l = m) = false) := Lib.hid (by have := HX.out; rw [if_neg (by simp [d1])] at this; exact this)
            clear HX
            go_wp2_with fail
            refine wp_region_held_drew (S := (fun V => Below wr.heap.size wr V)) (by kernel_rfl) (by exact (Below.refl _ _).drew) (fun hHeld => ?_)
            refine wpAnyH_take (i := 0) (oi := { dst := some 17, op := _, type := _, pos := _, after := _, guard := _ }) (v := ?_) rfl (by kernel_rfl) (by kernel_rfl) (by kernel_rfl) (fun _ _ _ h => h) (Or.inl ⟨by rfl, ?_⟩) hHeld ?_
            rotate_left
            · (intro w hSw; obtain ⟨g0, g1, g2⟩ := HK1.out _ hSw; obtain ⟨h0, h1, h2⟩ := HK0.out _ hSw; go_simp <;> with_reducible rfl)
            try simp only [Act.put, List.setIfInBounds_toArray, List.set_cons_zero, List.set_cons_succ]
            refine wpAnyH_take (i := 1) (oi := { dst := some 18, op := _, type := _, pos := _, after := _, guard := _ }) (v := ?_) rfl (by kernel_rfl) (by kernel_rfl) (by kernel_rfl) (fun _ _ _ h => h) (Or.inl ⟨by rfl, ?_⟩) hHeld ?_
            rotate_left
            · (intro w hSw; obtain ⟨g0, g1, g2⟩ := HK1.out _ hSw; obtain ⟨h0, h1, h2⟩ := HK0.out _ hSw; go_simp <;> with_reducible rfl)
            try simp only [Act.put, List.setIfInBounds_toArray, List.set_cons_zero, List.set_cons_succ]
            refine wpAnyH_take (i := 2) (oi := { dst := some 19, op := _, type := _, pos := _, after := _, guard := _ }) (v := ?_) rfl (by kernel_rfl) (by kernel_rfl) (by kernel_rfl) (fun _ _ _ h => h) (Or.inl ⟨by rfl, ?_⟩) hHeld ?_
            rotate_left
            · (intro w hSw; obtain ⟨g0, g1, g2⟩ := HK1.out _ hSw; obtain ⟨h0, h1, h2⟩ := HK0.out _ hSw; go_simp <;> with_reducible rfl)
            try simp only [Act.put, List.setIfInBounds_toArray, List.set_cons_zero, List.set_cons_succ]
            refine wpAnyH_take (i := 3) (oi := { dst := some 20, op := _, type := _, pos := _, after := _, guard := _ }) (v := ?_) rfl (by kernel_rfl) (by kernel_rfl) (by kernel_rfl) (fun _ _ _ h => h) (Or.inl ⟨by rfl, ?_⟩) hHeld ?_
            rotate_left
            · (intro w hSw; obtain ⟨g0, g1, g2⟩ := HK1.out _ hSw; obtain ⟨h0, h1, h2⟩ := HK0.out _ hSw; go_simp <;> with_reducible rfl)
            try simp only [Act.put, List.setIfInBounds_toArray, List.set_cons_zero, List.set_cons_succ]
            refine wpAnyH_take (i := 4) (oi := { dst := some 21, op := _, type := _, pos := _, after := _, guard := _ }) (v := ?_) rfl (by kernel_rfl) (by kernel_rfl) (by kernel_rfl) (fun _ _ _ h => h) (Or.inl ⟨by rfl, ?_⟩) hHeld ?_
            rotate_left
            · (intro w hSw; obtain ⟨g0, g1, g2⟩ := HK1.out _ hSw; obtain ⟨h0, h1, h2⟩ := HK0.out _ hSw; go_simp <;> with_reducible rfl)
            try simp only [Act.put, List.setIfInBounds_toArray, List.set_cons_zero, List.set_cons_succ]
            refine wpAnyH_take (i := 5) (oi := { dst := some 22, op := _, type := _, pos := _, after := _, guard := _ }) (v := ?_) rfl (by kernel_rfl) (by kernel_rfl) (by kernel_rfl) (fun _ _ _ h => h) (Or.inl ⟨by rfl, ?_⟩) hHeld ?_
            rotate_left
            · (intro w hSw; obtain ⟨g0, g1, g2⟩ := HK1.out _ hSw; obtain ⟨h0, h1, h2⟩ := HK0.out _ hSw; go_simp <;> with_reducible rfl)
            try simp only [Act.put, List.setIfInBounds_toArray, List.set_cons_zero, List.set_cons_succ]
            refine wpAnyH_take (i := 6) (oi := { dst := some 23, op := _, type := _, pos := _, after := _, guard := _ }) (v := ?_) rfl (by kernel_rfl) (by kernel_rfl) (by kernel_rfl) (fun _ _ _ h => h) (Or.inl ⟨by rfl, ?_⟩) hHeld ?_
            rotate_left
            · (intro w hSw; obtain ⟨g0, g1, g2⟩ := HK1.out _ hSw; obtain ⟨h0, h1, h2⟩ := HK0.out _ hSw; go_simp <;> with_reducible rfl)
            try simp only [Act.put, List.setIfInBounds_toArray, List.set_cons_zero, List.set_cons_succ]
            refine wpAnyH_take (i := 7) (oi := { dst := some 24, op := _, type := _, pos := _, after := _, guard := _ }) (v := ?_) rfl (by kernel_rfl) (by kernel_rfl) (by kernel_rfl) (fun _ _ _ h => h) (Or.inl ⟨by rfl, ?_⟩) hHeld ?_
            rotate_left
            · (intro w hSw; obtain ⟨g0, g1, g2⟩ := HK1.out _ hSw; obtain ⟨h0, h1, h2⟩ := HK0.out _ hSw; go_simp <;> with_reducible rfl)
            try simp only [Act.put, List.setIfInBounds_toArray, List.set_cons_zero, List.set_cons_succ]
            refine wpAnyH_take (i := 8) (oi := { dst := some 25, op := _, type := _, pos := _, after := _, guard := _ }) (v := ?_) rfl (by kernel_rfl) (by kernel_rfl) (by kernel_rfl) (fun _ _ _ h => h) (Or.inl ⟨by rfl, ?_⟩) hHeld ?_
            rotate_left
            · (intro w hSw; obtain ⟨g0, g1, g2⟩ := HK1.out _ hSw; obtain ⟨h0, h1, h2⟩ := HK0.out _ hSw; go_simp <;> with_reducible rfl)
            try simp only [Act.put, List.setIfInBounds_toArray, List.set_cons_zero, List.set_cons_succ]
            refine wpAnyH_done (by kernel_rfl) ?_ _
            have hB2 := hB.trans (hHeld.mono hsz)
            go_wp2_with fail
            go_ret
            exact ⟨retB HN.out.symm, hB2⟩
        · have HN : Hid (decide (l = m) = false) := Lib.hid (by have := HX.out; rw [if_neg (by simp [d0])] at this; exact this)
          clear HX
          go_wp2_with fail
          refine wp_region_held_drew (S := (fun V => Below wr.heap.size wr V)) (by kernel_rfl) (by exact (Below.refl _ _).drew) (fun hHeld => ?_)
          refine wpAnyH_take (i := 0) (oi := { dst := some 17, op := _, type := _, pos := _, after := _, guard := _ }) (v := ?_) rfl (by kernel_rfl) (by kernel_rfl) (by kernel_rfl) (fun _ _ _ h => h) (Or.inl ⟨by rfl, ?_⟩) hHeld ?_
          rotate_left
          · (intro w hSw; obtain ⟨g0, g1, g2⟩ := HK1.out _ hSw; obtain ⟨h0, h1, h2⟩ := HK0.out _ hSw; go_simp <;> with_reducible rfl)
          try simp only [Act.put, List.setIfInBounds_toArray, List.set_cons_zero, List.set_cons_succ]
          refine wpAnyH_take (i := 1) (oi := { dst := some 18, op := _, type := _, pos := _, after := _, guard := _ }) (v := ?_) rfl (by kernel_rfl) (by kernel_rfl) (by kernel_rfl) (fun _ _ _ h => h) (Or.inl ⟨by rfl, ?_⟩) hHeld ?_
          rotate_left
          · (intro w hSw; obtain ⟨g0, g1, g2⟩ := HK1.out _ hSw; obtain ⟨h0, h1, h2⟩ := HK0.out _ hSw; go_simp <;> with_reducible rfl)
          try simp only [Act.put, List.setIfInBounds_toArray, List.set_cons_zero, List.set_cons_succ]
          refine wpAnyH_take (i := 2) (oi := { dst := some 19, op := _, type := _, pos := _, after := _, guard := _ }) (v := ?_) rfl (by kernel_rfl) (by kernel_rfl) (by kernel_rfl) (fun _ _ _ h => h) (Or.inl ⟨by rfl, ?_⟩) hHeld ?_
          rotate_left
          · (intro w hSw; obtain ⟨g0, g1, g2⟩ := HK1.out _ hSw; obtain ⟨h0, h1, h2⟩ := HK0.out _ hSw; go_simp <;> with_reducible rfl)
          try simp only [Act.put, List.setIfInBounds_toArray, List.set_cons_zero, List.set_cons_succ]
          refine wpAnyH_take (i := 3) (oi := { dst := some 20, op := _, type := _, pos := _, after := _, guard := _ }) (v := ?_) rfl (by kernel_rfl) (by kernel_rfl) (by kernel_rfl) (fun _ _ _ h => h) (Or.inl ⟨by rfl, ?_⟩) hHeld ?_
          rotate_left
          · (intro w hSw; obtain ⟨g0, g1, g2⟩ := HK1.out _ hSw; obtain ⟨h0, h1, h2⟩ := HK0.out _ hSw; go_simp <;> with_reducible rfl)
          try simp only [Act.put, List.setIfInBounds_toArray, List.set_cons_zero, List.set_cons_succ]
          refine wpAnyH_take (i := 4) (oi := { dst := some 21, op := _, type := _, pos := _, after := _, guard := _ }) (v := ?_) rfl (by kernel_rfl) (by kernel_rfl) (by kernel_rfl) (fun _ _ _ h => h) (Or.inl ⟨by rfl, ?_⟩) hHeld ?_
          rotate_left
          · (intro w hSw; obtain ⟨g0, g1, g2⟩ := HK1.out _ hSw; obtain ⟨h0, h1, h2⟩ := HK0.out _ hSw; go_simp <;> with_reducible rfl)
          try simp only [Act.put, List.setIfInBounds_toArray, List.set_cons_zero, List.set_cons_succ]
          refine wpAnyH_take (i := 5) (oi := { dst := some 22, op := _, type := _, pos := _, after := _, guard := _ }) (v := ?_) rfl (by kernel_rfl) (by kernel_rfl) (by kernel_rfl) (fun _ _ _ h => h) (Or.inl ⟨by rfl, ?_⟩) hHeld ?_
          rotate_left
          · (intro w hSw; obtain ⟨g0, g1, g2⟩ := HK1.out _ hSw; obtain ⟨h0, h1, h2⟩ := HK0.out _ hSw; go_simp <;> with_reducible rfl)
          try simp only [Act.put, List.setIfInBounds_toArray, List.set_cons_zero, List.set_cons_succ]
          refine wpAnyH_take (i := 6) (oi := { dst := some 23, op := _, type := _, pos := _, after := _, guard := _ }) (v := ?_) rfl (by kernel_rfl) (by kernel_rfl) (by kernel_rfl) (fun _ _ _ h => h) (Or.inl ⟨by rfl, ?_⟩) hHeld ?_
          rotate_left
          · (intro w hSw; obtain ⟨g0, g1, g2⟩ := HK1.out _ hSw; obtain ⟨h0, h1, h2⟩ := HK0.out _ hSw; go_simp <;> with_reducible rfl)
          try simp only [Act.put, List.setIfInBounds_toArray, List.set_cons_zero, List.set_cons_succ]
          refine wpAnyH_take (i := 7) (oi := { dst := some 24, op := _, type := _, pos := _, after := _, guard := _ }) (v := ?_) rfl (by kernel_rfl) (by kernel_rfl) (by kernel_rfl) (fun _ _ _ h => h) (Or.inl ⟨by rfl, ?_⟩) hHeld ?_
          rotate_left
          · (intro w hSw; obtain ⟨g0, g1, g2⟩ := HK1.out _ hSw; obtain ⟨h0, h1, h2⟩ := HK0.out _ hSw; go_simp <;> with_reducible rfl)
          try simp only [Act.put, List.setIfInBounds_toArray, List.set_cons_zero, List.set_cons_succ]
          refine wpAnyH_take (i := 8) (oi := { dst := some 25, op := _, type := _, pos := _, after := _, guard := _ }) (v := ?_) rfl (by kernel_rfl) (by kernel_rfl) (by kernel_rfl) (fun _ _ _ h => h) (Or.inl ⟨by rfl, ?_⟩) hHeld ?_
          rotate_left
          · (intro w hSw; obtain ⟨g0, g1, g2⟩ := HK1.out _ hSw; obtain ⟨h0, h1, h2⟩ := HK0.out _ hSw; go_simp <;> with_reducible rfl)
          try simp only [Act.put, List.setIfInBounds_toArray, List.set_cons_zero, List.set_cons_succ]
          refine wpAnyH_done (by kernel_rfl) ?_ _
          have hB2 := hB.trans (hHeld.mono hsz)
          go_wp2_with fail
          go_ret
          exact ⟨retB HN.out.symm, hB2⟩
      · have HE := Lib.hid (show decide (l = m) = true from decide_eq_true (list_eq_ofP HLM.out fun j h1 h2 => hno j h1 h2 (by omega)))
        clear hno
        go_wp2_with fail
        go_ret
        exact ⟨retB HE.out.symm, hB⟩
  · have HE := Lib.hid (show decide (l = m) = false from decide_eq_false fun e => hlen (by rw [e]))
    have hlen2 : ¬ ((l.length : Int) = (m.length : Int)) := by omega
    have hlen3 : ((l.length : Int) != (m.length : Int)) = true := by simpa using hlen2
    clear hlen
    go_enter Try.func25, Try.ntmps25
    go_wp2_with fail
    go_ret
    exact ⟨retB HE.out.symm, Below.refl _ _⟩

theorem rpsame_any_self (A A2 : Option Addr) (cap cap2 : Nat) (l : List Fw) (w : World) (hl : l.length ≤ 1000000) (hs : Sl w A (rc Fw.cells l)) (hs2 : Sl w A2 (rc Fw.cells l)) :
    Calls Try.prog 25 #[.slice A l.length cap, .slice A2 l.length cap2] w fun e w' => e = .returned (.bool true) ∧ Below w.heap.size w w' :=
  (rpsame_any A A2 cap cap2 l l w hl hs hs2).mono fun _ _ ⟨he, hw⟩ => ⟨by rw [he, decide_eq_true rfl], hw⟩

def moveR (l : List Fw) (fa fc ta tc m : Int) : Int × List Fw := if isF l = false then (3, []) else if In64 (-m) then payR l [⟨fa, fc, -m⟩, ⟨ta, tc, m⟩] else (7, [])
set_option maxHeartbeats 8000000 in
set_option maxRecDepth 100000 in
theorem pmove_any (A : Option Addr) (cap : Nat) (l : List Fw) (fa fc ta tc m : Int) (w : World) (hl : l.length ≤ 40000) (hin : ∀ x ∈ l, Fw.in_ x) (hf : In64 fa ∧ In64 fc ∧ In64 ta ∧ In64 tc ∧ In64 m) (hs : Sl w A (rc Fw.cells l)) :
    Calls Try.prog 27 #[.slice A l.length cap, .agg #[.int .i64 fa, .int .i64 fc], .agg #[.int .i64 ta, .int .i64 tc], .int .i64 m] w fun e w' => PRes w' e (moveR l fa fc ta tc m) ∧ Below w.heap.size w w' := by
  have hB0 := since_alloc (since_alloc (Below.refl _ w) (.cells #[.int .i64 fa, .int .i64 fc] 24)) (.cells #[.int .i64 ta, .int .i64 tc] 24)
  have hK1 := (Bk.new w #[.int .i64 fa, .int .i64 fc] 24).alloc (.cells #[.int .i64 ta, .int .i64 tc] 24)
  have hK2 := Bk.new (w.alloc (.cells #[.int .i64 fa, .int .i64 fc] 24)) #[.int .i64 ta, .int .i64 tc] 24
  rw [World.size_alloc] at hK2
  have hs0 := (hs.alloc (.cells #[.int .i64 fa, .int .i64 fc] 24)).alloc (.cells #[.int .i64 ta, .int .i64 tc] 24)
  have HIS := Lib.hid (fun V h => pis_any A cap l V (by omega) h)
  obtain ⟨RES, hRES⟩ : ∃ R, moveR l fa fc ta tc m = R := ⟨_, rfl⟩
  rw [hRES]
  clear hs
  cases his : isF l with
  | false =>
    have HR : Hid (RES = (3, [])) := Lib.hid (by rw [← hRES, moveR, if_pos his])
    rw [his] at HIS
    clear his hRES hK1 hK2
    go_enter Try.func27, Try.ntmps27
    go_wp2_with fail
    refine (HIS.out _ hs0).mono ?_
    rintro e z1 ⟨rfl, hb⟩
    have hB1 := since_step hB0 hb
    go_wp2_with fail
    go_ret2
    rw [HR.out]
    exact ⟨PRes.nil _ _, hB1⟩
  | true =>
    rw [his] at HIS
    have HSB := Lib.hid (fun V => fsub_any 0 m (by unfold In64; omega) hf.2.2.2.2 V)
    rw [Int.zero_sub] at HSB
    by_cases hm : In64 (-m)
    · have HR : Hid (RES = payR l [⟨fa, fc, -m⟩, ⟨ta, tc, m⟩]) := Lib.hid (by rw [← hRES, moveR, if_neg (by rw [his]; decide), if_pos hm])
      have hv : fV (-m) = -m := if_pos hm
      have hE : fE (-m) = 0 := if_pos hm
      rw [hv, hE] at HSB
      have HPY := Lib.hid (fun V A2 h1 h2 => ppay_any A A2 cap 2 l [⟨fa, fc, -m⟩, ⟨ta, tc, m⟩] V (by omega) (by simp) (fun x hx => by
        rcases List.mem_append.1 hx with hx | hx
        · exact hin x hx
        · rcases List.mem_cons.1 hx with rfl | hx
          · exact ⟨hf.1, hf.2.1, hm⟩
          · obtain rfl : x = ⟨ta, tc, m⟩ := by simpa using hx
            exact ⟨hf.2.2.1, hf.2.2.2.1, hf.2.2.2.2⟩) h1 h2)
      simp only [List.length_cons, List.length_nil] at HPY
      rw [← HR.out] at HPY
      clear his hRES hv hE hm HR
      go_enter Try.func27, Try.ntmps27
      go_wp2_with fail
      refine (HIS.out _ hs0).mono ?_
      rintro e z1 ⟨rfl, hb⟩
      have hB1 := since_step hB0 hb
      have hK1 := hK1.below hb
      have hK2 := hK2.below hb
      have hs1 := hs0.below hb
      clear hb hs0
      go_wp2_with fail
      refine (HSB.out _).mono ?_
      rintro e z2 ⟨rfl, hb⟩
      have hB2 := since_step hB1 hb
      have hK1 := hK1.below hb
      have hK2 := hK2.below hb
      have hs2 := (hs1.below hb).alloc (.cells #[.int .i64 fa, .int .i64 fc, .int .i64 (-m), .int .i64 ta, .int .i64 tc, .int .i64 m] 48)
      have hB3 := since_alloc hB2 (.cells #[.int .i64 fa, .int .i64 fc, .int .i64 (-m), .int .i64 ta, .int .i64 tc, .int .i64 m] 48)
      have hnw := Sl.new_ z2 (rc Fw.cells [⟨fa, fc, -m⟩, ⟨ta, tc, m⟩]) 48
      obtain ⟨l1, c1⟩ := hK1
      obtain ⟨l2, c2⟩ := hK2
      have p0 := c1 0
      have p1 := c1 1
      have p2 := c2 0
      have p3 := c2 1
      simp at p0 p1 p2 p3
      clear hb hs1 c1 c2 hB2 hB1
      go_wp2_with fail
      refine (HPY.out _ _ hs2 hnw).mono ?_
      rintro e z3 ⟨⟨A3, c3, rfl, s3⟩, hb⟩
      have hB4 := since_step hB3 hb
      go_wp2_with fail
      go_ret2
      exact ⟨⟨A3, c3, rfl, s3⟩, hB4⟩
    · have HR : Hid (RES = (7, [])) := Lib.hid (by rw [← hRES, moveR, if_neg (by rw [his]; decide), if_neg hm])
      have hv : fV (-m) = 0 := if_neg hm
      have hE : fE (-m) = 7 := if_neg hm
      rw [hv, hE] at HSB
      clear his hRES hv hE hm hK1 hK2
      go_enter Try.func27, Try.ntmps27
      go_wp2_with fail
      refine (HIS.out _ hs0).mono ?_
      rintro e z1 ⟨rfl, hb⟩
      have hB1 := since_step hB0 hb
      go_wp2_with fail
      refine (HSB.out _).mono ?_
      rintro e z2 ⟨rfl, hb⟩
      have hB2 := since_step hB1 hb
      go_wp2_with fail
      go_ret2
      rw [HR.out]
      exact ⟨PRes.nil _ _, hB2⟩
theorem PRes.of {w' : World} {e : Ending} {n : Int} {L : List Fw} (h : PRes w' e (n, L)) : ∃ A' c', e = .returned (.tuple #[.slice A' L.length c', .int .i64 n]) ∧ Sl w' A' (rc Fw.cells L) := h
theorem live17 : moveR [] 1 0 2 0 5 = (0, [⟨1, 0, -5⟩, ⟨2, 0, 5⟩]) := by decide +kernel
set_option maxHeartbeats 4000000 in
set_option maxRecDepth 100000 in
theorem lives17_any (w : World) : Calls Try.prog 26 #[] w fun e w' => e = .returned (.bool true) ∧ Below w.heap.size w w' := by
  have HM := Lib.hid (fun V => pmove_any none 0 [] 1 0 2 0 5 V (by simp) (fun x hx => by cases hx) (by unfold In64; omega) Sl.nil)
  rw [live17] at HM
  simp only [List.length_nil] at HM
  have HG := Lib.hid (fun A c V a b h => pget_any A c [⟨1, 0, -5⟩, ⟨2, 0, 5⟩] a b V (by simp) h)
  have HI := Lib.hid (fun A c V h => pis_any A c [⟨1, 0, -5⟩, ⟨2, 0, 5⟩] V (by simp) h)
  rw [show isF [⟨1, 0, -5⟩, ⟨2, 0, 5⟩] = true by decide] at HI
  have e1 : getF [⟨1, 0, -5⟩, ⟨2, 0, 5⟩] 1 0 = -5 := by decide
  have e2 : getF [⟨1, 0, -5⟩, ⟨2, 0, 5⟩] 2 0 = 5 := by decide
  have HG1 := Lib.hid (fun A c V h => HG.out A c V 1 0 h)
  have HG2 := Lib.hid (fun A c V h => HG.out A c V 2 0 h)
  rw [e1] at HG1
  rw [e2] at HG2
  simp only [List.length_cons, List.length_nil] at HG1 HG2 HI
  have hB0 := since_alloc (since_alloc (Below.refl _ w) (.cells #[.int .i64 1, .int .i64 0] 24)) (.cells #[.int .i64 2, .int .i64 0] 24)
  have hK1 := (Bk.new w #[.int .i64 1, .int .i64 0] 24).alloc (.cells #[.int .i64 2, .int .i64 0] 24)
  have hK2 := Bk.new (w.alloc (.cells #[.int .i64 1, .int .i64 0] 24)) #[.int .i64 2, .int .i64 0] 24
  rw [World.size_alloc] at hK2
  clear e1 e2 HG
  go_enter Try.func26, Try.ntmps26
  go_wp2_with fail
  refine (HM.out _).mono ?_
  rintro e w1 ⟨hp, hb⟩
  obtain ⟨A1, c1, rfl, s1⟩ := hp.of
  simp only [List.length_cons, List.length_nil]
  have hB1 := since_step hB0 hb
  have hK1 := hK1.below hb
  have hK2 := hK2.below hb
  obtain ⟨l1, q1⟩ := id hK1
  have p0 := q1 0
  have p1 := q1 1
  simp at p0 p1
  clear hb hp q1
  go_wp2_with fail
  refine (HG1.out _ _ _ s1).mono ?_
  rintro e w2 ⟨rfl, hb⟩
  have hB2 := since_step hB1 hb
  have hK2 := hK2.below hb
  have s2 := s1.below hb
  obtain ⟨l2, q2⟩ := id hK2
  have p2 := q2 0
  have p3 := q2 1
  simp at p2 p3
  clear hb q2 p0 p1 hK1 l1
  go_wp2_with fail
  refine (HG2.out _ _ _ s2).mono ?_
  rintro e w3 ⟨rfl, hb⟩
  have hB3 := since_step hB2 hb
  have s3 := s2.below hb
  clear hb
  go_wp2_with fail
  refine (HI.out _ _ _ s3).mono ?_
  rintro e w4 ⟨rfl, hb⟩
  have hB4 := since_step hB3 hb
  go_wp2_with fail
  go_ret
  exact ⟨rfl, hB4⟩
theorem rd_fwrow {w : World} {r : List Value} (h : Rd w (.cat (.cat (.int .i64) (.cat (.int .i64) .nil)) (.cat (.int .i64) .nil)) r) : ∃ g : Fw, r = g.cells ∧ Fw.in_ g := by
  obtain ⟨p, q, rfl, ⟨p1, q1, rfl, ⟨a, rfl, wa⟩, ⟨p2, q2, rfl, ⟨c, rfl, wc⟩, rfl⟩⟩, ⟨p3, q3, rfl, ⟨m, rfl, wm⟩, rfl⟩⟩ := h
  exact ⟨⟨a, c, m⟩, rfl, bd_i64 wa, bd_i64 wc, bd_i64 wm⟩
theorem rd_unv {w : World} {a : Array Value} (h : Rd w (.cat (.int .i64) (.cat (.int .i64) .nil)) a.toList) : ∃ x y : Int, .agg a = Value.agg #[.int .i64 x, .int .i64 y] ∧ In64 x ∧ In64 y := by
  obtain ⟨p, q, e, ⟨x, rfl, wx⟩, ⟨p2, q2, rfl, ⟨y, rfl, wy⟩, rfl⟩⟩ := h
  refine ⟨x, y, ?_, bd_i64 wx, bd_i64 wy⟩
  cases a
  simp at e
  subst e
  rfl
/-- at most 20 of what came in -/
theorem rd_fws {w : World} {A : Option Addr} {n c : Nat} (h : Rd w (.sl (.cat (.cat (.int .i64) (.cat (.int .i64) .nil)) (.cat (.int .i64) .nil))) [.slice A n c]) : ∃ L : List Fw, L.length ≤ 20 ∧ (∀ x ∈ L, Fw.in_ x) ∧ Sl w A (rc Fw.cells L) ∧ Hid (∀ V, Below w.heap.size w V → Calls Try.prog 14 #[.slice A n c] V fun e w' => e = .returned (.slice A L.length c) ∧ Below V.heap.size V w') := by
  obtain ⟨l, rfl, hlc, hcm, hs, hq⟩ := rd_rowsP (f := Fw.cells) (fun r => rd_fwrow) h
  refine ⟨l.take 20, by simp; omega, fun x hx => hq x (List.mem_of_mem_take hx), by rw [← rc_take Fw.len]; exact hs.take _, Lib.hid fun V hV => few17_any A c l V hlc hcm (hs.below hV)⟩

set_option maxHeartbeats 16000000 in
set_option maxRecDepth 100000 in
theorem walk_PursePays (a0 : Option Addr) (n0 c0 : Nat) (a1 : Option Addr) (n1 c1 : Nat) (a2 : Array Value) (w : World) (w0 : Rd w (.sl (.cat (.cat (.int .i64) (.cat (.int .i64) .nil)) (.cat (.int .i64) .nil))) [.slice a0 n0 c0]) (w1 : Rd w (.sl (.cat (.cat (.int .i64) (.cat (.int .i64) .nil)) (.cat (.int .i64) .nil))) [.slice a1 n1 c1]) (w2 : Rd w (.cat (.int .i64) (.cat (.int .i64) .nil)) a2.toList) :
    Calls Try.prog 3 #[.slice a0 n0 c0, .slice a1 n1 c1, .agg a2] w fun e w' => e = .returned (.bool true) ∧ Below w.heap.size w w' := by
  obtain ⟨L, hL20, hLq, hsL, HF1⟩ := rd_fws w0
  obtain ⟨M, hM20, hMq, hsM, HF2⟩ := rd_fws w1
  obtain ⟨ua, uc, hu, _, _⟩ := rd_unv w2
  rw [hu]
  clear hu w0 w1 w2
  have hB := since_alloc (Below.refl _ w) (.cells #[.int .i64 ua, .int .i64 uc] 24)
  have HF1 := Lib.hid (HF1.out _ hB)
  have HF2 := Lib.hid (fun V h => HF2.out V (since_step hB h))
  have hU := Bk.new w #[.int .i64 ua, .int .i64 uc] 24
  have hsL := hsL.alloc (.cells #[.int .i64 ua, .int .i64 uc] 24)
  have hsM := hsM.alloc (.cells #[.int .i64 ua, .int .i64 uc] 24)
  have hLA : ∀ y ∈ L, In64 y.amt := fun y hy => (hLq y hy).2.2
  have HTT := Lib.hid (fun V h => ptotal_any a0 c0 L V (by omega) hLA h)
  have HRT := Lib.hid (fun V h => rptotal_any a0 c0 L V (by omega) hLA h)
  have H128 : Hid (In128 (totF L)) := Lib.hid (sum64_128 (by simp; omega) (amts_in hLA))
  have HWD := Lib.hid (fun V => rwide_any (totF L) H128.out V)
  have HIS := Lib.hid (fun V h => pis_any a0 c0 L V (by omega) h)
  have HRI := Lib.hid (fun V h => rpis_any a0 c0 L V (by omega) h)
  have HGT := Lib.hid (fun V h => pget_any a0 c0 L ua uc V (by omega) h)
  have HRG := Lib.hid (fun V h => rpget_any a0 c0 L ua uc V (by omega) h)
  have hall : ∀ x ∈ L ++ M, Fw.in_ x := fun x hx => by
    rcases List.mem_append.1 hx with hx | hx
    · exact hLq x hx
    · exact hMq x hx
  have HP := Lib.hid (fun V h1 h2 => ppay_any a0 a1 c0 c1 L M V (by omega) (by omega) hall h1 h2)
  have HRP := Lib.hid (fun V h1 h2 => rppay_any a0 a1 c0 c1 L M V (by omega) (by omega) hall h1 h2)
  have hpl : (payR L M).2.length ≤ 1000000 := by
    unfold payR
    split
    · simp
    · split
      · simp
      · have h1 := outU_len (L ++ M) (unitsU (L ++ M))
        have h2 := unitsU_len (L ++ M)
        rw [List.length_append] at h2
        show (outU (L ++ M) (unitsU (L ++ M))).length ≤ _
        omega
  obtain ⟨pn, PL, hPL⟩ : ∃ n R, payR L M = (n, R) := ⟨_, _, rfl⟩
  rw [hPL] at HP HRP hpl
  have HSM := Lib.hid (fun A A2 c c2 V h1 h2 => rpsame_any_self A A2 c c2 PL V hpl h1 h2)
  unfold PRes at HP HRP
  simp only at HP HRP
  have HLV := Lib.hid (fun V => lives17_any V)
  have hpn : (pn == pn) = true := by simp
  generalize totF L = sm at *
  generalize getF L ua uc = gt at *
  generalize isF L = bi at *
  have hgt2 : (gt != gt) = false := by simp
  have hbi2 : (bi != bi) = false := by simp
  clear hL20 hM20 hLq hMq hLA hall hpl hPL
  go_enter Try.func3, Try.ntmps3
  go_upto_region 1 with fail
  generalize hWW : w.alloc (.cells #[.int .i64 ua, .int .i64 uc] 24) = W at *
  clear hWW
  obtain ⟨hU_l, hU_c⟩ := id hU
  have hU_0 := hU_c 0
  have hU_1 := hU_c 1
  simp at hU_0 hU_1
  clear hU_c
  go_wp2_with fail
  refine HF1.out.mono ?_
  rintro e z1 ⟨rfl, hb⟩
  have HF2 := Lib.hid (HF2.out _ hb)
  have hB := since_step hB hb
  have hU := hU.below hb
  have hsL := hsL.below hb
  have hsM := hsM.below hb
  clear hb HF1
  clear hU_l hU_0 hU_1
  obtain ⟨hU_l, hU_c⟩ := id hU
  have hU_0 := hU_c 0
  have hU_1 := hU_c 1
  simp at hU_0 hU_1
  clear hU_c
  go_wp2_with fail
  refine (HF2.out).mono ?_
  rintro e z2 ⟨rfl, hb⟩
  have hB := since_step hB hb
  have hU := hU.below hb
  have hsL := hsL.below hb
  have hsM := hsM.below hb
  clear hb
  clear hU_l hU_0 hU_1
  obtain ⟨hU_l, hU_c⟩ := id hU
  have hU_0 := hU_c 0
  have hU_1 := hU_c 1
  simp at hU_0 hU_1
  clear hU_c
  go_wp2_with fail
  refine (HTT.out _ hsL).mono ?_
  rintro e z3 ⟨rfl, hb⟩
  have hB := since_step hB hb
  have hU := hU.below hb
  have hsL := hsL.below hb
  have hsM := hsM.below hb
  clear hb
  clear hU_l hU_0 hU_1
  obtain ⟨hU_l, hU_c⟩ := id hU
  have hU_0 := hU_c 0
  have hU_1 := hU_c 1
  simp at hU_0 hU_1
  clear hU_c
  go_upto_region 3 with fail
  have hK := Bk.new z3 #[.int .i64 (hiN sm), .int .u64 (loN sm)] 28
  have hA := (Below.refl z3.heap.size z3).alloc (Nat.le_refl _) (.cells #[.int .i64 (hiN sm), .int .u64 (loN sm)] 28)
  have hU := hU.below hA
  have hsL := hsL.below hA
  have hsM := hsM.below hA
  have hB := since_step hB hA
  clear hA
  generalize hWW : z3.alloc (.cells #[.int .i64 (hiN sm), .int .u64 (loN sm)] 28) = U at *
  clear hWW
  clear hU_l hU_0 hU_1
  have HU : Hid (∀ V, Below U.heap.size U V → Bk V w.heap.size #[.int .i64 ua, .int .i64 uc]) := Lib.hid fun V h => hU.below h
  have HK : Hid (∀ V, Below U.heap.size U V → Bk V z3.heap.size #[.int .i64 (hiN sm), .int .u64 (loN sm)]) := Lib.hid fun V h => hK.below h
  have HSL : Hid (∀ V, Below U.heap.size U V → Sl V a0 (rc Fw.cells L)) := Lib.hid fun V h => hsL.below h
  have HSM1 : Hid (∀ V, Below U.heap.size U V → Sl V a1 (rc Fw.cells M)) := Lib.hid fun V h => hsM.below h
  have hszU := hB.size
  clear hU hK hsL hsM
  go_wp2_with fail
  refine wp_region_held_drew (S := (fun V => Below U.heap.size U V)) (by kernel_rfl) (by exact (Below.refl _ _).drew) (fun hHeld => ?_)
  refine wpAnyH_take (i := 0) (oi := { dst := some 18, op := _, type := _, pos := _, after := _, guard := _ }) (v := ?_) rfl (by kernel_rfl) (by kernel_rfl) (by kernel_rfl) (fun _ _ _ h => h) (Or.inl ⟨by rfl, ?_⟩) hHeld ?_
  rotate_left
  · (intro w hSw; obtain ⟨lu, cu⟩ := HU.out _ hSw; have u0 := cu 0; have u1 := cu 1; obtain ⟨lk, ck⟩ := HK.out _ hSw; have k0 := ck 0; have k1 := ck 1; simp at u0 u1 k0 k1; clear cu ck; go_simp <;> with_reducible rfl)
  try simp only [Act.put, List.setIfInBounds_toArray, List.set_cons_zero, List.set_cons_succ]
  refine wpAnyH_take (i := 2) (oi := { dst := some 20, op := _, type := _, pos := _, after := _, guard := _ }) (v := ?_) rfl (by kernel_rfl) (by kernel_rfl) (by kernel_rfl) (fun _ _ _ h => h) (Or.inl ⟨by rfl, ?_⟩) hHeld ?_
  rotate_left
  · (intro w hSw; obtain ⟨lu, cu⟩ := HU.out _ hSw; have u0 := cu 0; have u1 := cu 1; obtain ⟨lk, ck⟩ := HK.out _ hSw; have k0 := ck 0; have k1 := ck 1; simp at u0 u1 k0 k1; clear cu ck; go_simp <;> with_reducible rfl)
  try simp only [Act.put, List.setIfInBounds_toArray, List.set_cons_zero, List.set_cons_succ]
  refine wpAnyH_ready (rs := [1]) (by kernel_rfl) (by simp) ?_
  refine AllReadyH.cons (o := { dst := some 19, op := _, type := _, pos := _, after := _, guard := _ }) rfl (fun K hK => ?_) AllReadyH.nil
  go_simp
  refine (HIS.out _ (HSL.out _ hHeld)).mono ?_
  rintro e x1 ⟨rfl, hk1⟩
  have hKeep := since_step hHeld hk1
  go_wp2_with fail
  refine hK.out _ _ (by (try dsimp only); exact hKeep) (fun hHeld => ?_)
  clear hK K hKeep
  try simp only [Act.put, List.setIfInBounds_toArray, List.set_cons_zero, List.set_cons_succ]
  refine wpAnyH_ready (rs := [3]) (by kernel_rfl) (by simp) ?_
  refine AllReadyH.cons (o := { dst := some 21, op := _, type := _, pos := _, after := _, guard := _ }) rfl (fun K hK => ?_) AllReadyH.nil
  go_simp
  refine (HRI.out _ (HSL.out _ hHeld)).mono ?_
  rintro e x2 ⟨rfl, hk2⟩
  have hKeep := since_step hHeld hk2
  go_wp2_with fail
  refine hK.out _ _ (by (try dsimp only); exact hKeep) (fun hHeld => ?_)
  clear hK K hKeep
  try simp only [Act.put, List.setIfInBounds_toArray, List.set_cons_zero, List.set_cons_succ]
  refine wpAnyH_take (i := 4) (oi := { dst := some 22, op := _, type := _, pos := _, after := _, guard := _ }) (v := ?_) rfl (by kernel_rfl) (by kernel_rfl) (by kernel_rfl) (fun _ _ _ h => h) (Or.inl ⟨by rfl, ?_⟩) hHeld ?_
  rotate_left
  · (intro w hSw; obtain ⟨lu, cu⟩ := HU.out _ hSw; have u0 := cu 0; have u1 := cu 1; obtain ⟨lk, ck⟩ := HK.out _ hSw; have k0 := ck 0; have k1 := ck 1; simp at u0 u1 k0 k1; clear cu ck; go_simp <;> with_reducible rfl)
  try simp only [Act.put, List.setIfInBounds_toArray, List.set_cons_zero, List.set_cons_succ]
  refine wpAnyH_take (i := 5) (oi := { dst := some 23, op := _, type := _, pos := _, after := _, guard := _ }) (v := ?_) rfl (by kernel_rfl) (by kernel_rfl) (by kernel_rfl) (fun _ _ _ h => h) (Or.inl ⟨by rfl, ?_⟩) hHeld ?_
  rotate_left
  · (intro w hSw; obtain ⟨lu, cu⟩ := HU.out _ hSw; have u0 := cu 0; have u1 := cu 1; obtain ⟨lk, ck⟩ := HK.out _ hSw; have k0 := ck 0; have k1 := ck 1; simp at u0 u1 k0 k1; clear cu ck; go_simp <;> with_reducible rfl)
  try simp only [Act.put, List.setIfInBounds_toArray, List.set_cons_zero, List.set_cons_succ]
  refine wpAnyH_take (i := 6) (oi := { dst := some 24, op := _, type := _, pos := _, after := _, guard := _ }) (v := ?_) rfl (by kernel_rfl) (by kernel_rfl) (by kernel_rfl) (fun _ _ _ h => h) (Or.inl ⟨by rfl, ?_⟩) hHeld ?_
  rotate_left
  · (intro w hSw; obtain ⟨lu, cu⟩ := HU.out _ hSw; have u0 := cu 0; have u1 := cu 1; obtain ⟨lk, ck⟩ := HK.out _ hSw; have k0 := ck 0; have k1 := ck 1; simp at u0 u1 k0 k1; clear cu ck; go_simp <;> with_reducible rfl)
  try simp only [Act.put, List.setIfInBounds_toArray, List.set_cons_zero, List.set_cons_succ]
  refine wpAnyH_take (i := 7) (oi := { dst := some 25, op := _, type := _, pos := _, after := _, guard := _ }) (v := ?_) rfl (by kernel_rfl) (by kernel_rfl) (by kernel_rfl) (fun _ _ _ h => h) (Or.inl ⟨by rfl, ?_⟩) hHeld ?_
  rotate_left
  · (intro w hSw; obtain ⟨lu, cu⟩ := HU.out _ hSw; have u0 := cu 0; have u1 := cu 1; obtain ⟨lk, ck⟩ := HK.out _ hSw; have k0 := ck 0; have k1 := ck 1; simp at u0 u1 k0 k1; clear cu ck; go_simp <;> with_reducible rfl)
  try simp only [Act.put, List.setIfInBounds_toArray, List.set_cons_zero, List.set_cons_succ]
  refine wpAnyH_take (i := 9) (oi := { dst := some 27, op := _, type := _, pos := _, after := _, guard := _ }) (v := ?_) rfl (by kernel_rfl) (by kernel_rfl) (by kernel_rfl) (fun _ _ _ h => h) (Or.inl ⟨by rfl, ?_⟩) hHeld ?_
  rotate_left
  · (intro w hSw; obtain ⟨lu, cu⟩ := HU.out _ hSw; have u0 := cu 0; have u1 := cu 1; obtain ⟨lk, ck⟩ := HK.out _ hSw; have k0 := ck 0; have k1 := ck 1; simp at u0 u1 k0 k1; clear cu ck; go_simp <;> with_reducible rfl)
  try simp only [Act.put, List.setIfInBounds_toArray, List.set_cons_zero, List.set_cons_succ]
  refine wpAnyH_take (i := 10) (oi := { dst := some 28, op := _, type := _, pos := _, after := _, guard := _ }) (v := ?_) rfl (by kernel_rfl) (by kernel_rfl) (by kernel_rfl) (fun _ _ _ h => h) (Or.inl ⟨by rfl, ?_⟩) hHeld ?_
  rotate_left
  · (intro w hSw; obtain ⟨lu, cu⟩ := HU.out _ hSw; have u0 := cu 0; have u1 := cu 1; obtain ⟨lk, ck⟩ := HK.out _ hSw; have k0 := ck 0; have k1 := ck 1; simp at u0 u1 k0 k1; clear cu ck; go_simp <;> with_reducible rfl)
  try simp only [Act.put, List.setIfInBounds_toArray, List.set_cons_zero, List.set_cons_succ]
  refine wpAnyH_ready (rs := [8]) (by kernel_rfl) (by simp) ?_
  refine AllReadyH.cons (o := { dst := some 26, op := _, type := _, pos := _, after := _, guard := _ }) rfl (fun K hK => ?_) AllReadyH.nil
  go_simp
  refine (HGT.out _ (HSL.out _ hHeld)).mono ?_
  rintro e x3 ⟨rfl, hk3⟩
  have hKeep := since_step hHeld hk3
  go_wp2_with fail
  refine hK.out _ _ (by (try dsimp only); exact hKeep) (fun hHeld => ?_)
  clear hK K hKeep
  try simp only [Act.put, List.setIfInBounds_toArray, List.set_cons_zero, List.set_cons_succ]
  refine wpAnyH_ready (rs := [11]) (by kernel_rfl) (by simp) ?_
  refine AllReadyH.cons (o := { dst := some 29, op := _, type := _, pos := _, after := _, guard := _ }) rfl (fun K hK => ?_) AllReadyH.nil
  go_simp
  refine (HRG.out _ (HSL.out _ hHeld)).mono ?_
  rintro e x4 ⟨rfl, hk4⟩
  have hKeep := since_step hHeld hk4
  go_wp2_with fail
  refine hK.out _ _ (by (try dsimp only); exact hKeep) (fun hHeld => ?_)
  clear hK K hKeep
  try simp only [Act.put, List.setIfInBounds_toArray, List.set_cons_zero, List.set_cons_succ]
  refine wpAnyH_take (i := 12) (oi := { dst := some 30, op := _, type := _, pos := _, after := _, guard := _ }) (v := ?_) rfl (by kernel_rfl) (by kernel_rfl) (by kernel_rfl) (fun _ _ _ h => h) (Or.inl ⟨by rfl, ?_⟩) hHeld ?_
  rotate_left
  · (intro w hSw; obtain ⟨lu, cu⟩ := HU.out _ hSw; have u0 := cu 0; have u1 := cu 1; obtain ⟨lk, ck⟩ := HK.out _ hSw; have k0 := ck 0; have k1 := ck 1; simp at u0 u1 k0 k1; clear cu ck; go_simp <;> with_reducible rfl)
  try simp only [Act.put, List.setIfInBounds_toArray, List.set_cons_zero, List.set_cons_succ]
  refine wpAnyH_take (i := 13) (oi := { dst := some 31, op := _, type := _, pos := _, after := _, guard := _ }) (v := ?_) rfl (by kernel_rfl) (by kernel_rfl) (by kernel_rfl) (fun _ _ _ h => h) (Or.inl ⟨by rfl, ?_⟩) hHeld ?_
  rotate_left
  · (intro w hSw; obtain ⟨lu, cu⟩ := HU.out _ hSw; have u0 := cu 0; have u1 := cu 1; obtain ⟨lk, ck⟩ := HK.out _ hSw; have k0 := ck 0; have k1 := ck 1; simp at u0 u1 k0 k1; clear cu ck; go_simp <;> with_reducible rfl)
  try simp only [Act.put, List.setIfInBounds_toArray, List.set_cons_zero, List.set_cons_succ]
  refine wpAnyH_take (i := 14) (oi := { dst := some 32, op := _, type := _, pos := _, after := _, guard := _ }) (v := ?_) rfl (by kernel_rfl) (by kernel_rfl) (by kernel_rfl) (fun _ _ _ h => h) (Or.inl ⟨by rfl, ?_⟩) hHeld ?_
  rotate_left
  · (intro w hSw; obtain ⟨lu, cu⟩ := HU.out _ hSw; have u0 := cu 0; have u1 := cu 1; obtain ⟨lk, ck⟩ := HK.out _ hSw; have k0 := ck 0; have k1 := ck 1; simp at u0 u1 k0 k1; clear cu ck; go_simp <;> with_reducible rfl)
  try simp only [Act.put, List.setIfInBounds_toArray, List.set_cons_zero, List.set_cons_succ]
  refine wpAnyH_take (i := 15) (oi := { dst := some 33, op := _, type := _, pos := _, after := _, guard := _ }) (v := ?_) rfl (by kernel_rfl) (by kernel_rfl) (by kernel_rfl) (fun _ _ _ h => h) (Or.inl ⟨by rfl, ?_⟩) hHeld ?_
  rotate_left
  · (intro w hSw; obtain ⟨lu, cu⟩ := HU.out _ hSw; have u0 := cu 0; have u1 := cu 1; obtain ⟨lk, ck⟩ := HK.out _ hSw; have k0 := ck 0; have k1 := ck 1; simp at u0 u1 k0 k1; clear cu ck; go_simp <;> with_reducible rfl)
  try simp only [Act.put, List.setIfInBounds_toArray, List.set_cons_zero, List.set_cons_succ]
  refine wpAnyH_take (i := 16) (oi := { dst := some 34, op := _, type := _, pos := _, after := _, guard := _ }) (v := ?_) rfl (by kernel_rfl) (by kernel_rfl) (by kernel_rfl) (fun _ _ _ h => h) (Or.inl ⟨by rfl, ?_⟩) hHeld ?_
  rotate_left
  · (intro w hSw; obtain ⟨lu, cu⟩ := HU.out _ hSw; have u0 := cu 0; have u1 := cu 1; obtain ⟨lk, ck⟩ := HK.out _ hSw; have k0 := ck 0; have k1 := ck 1; simp at u0 u1 k0 k1; clear cu ck; go_simp <;> with_reducible rfl)
  try simp only [Act.put, List.setIfInBounds_toArray, List.set_cons_zero, List.set_cons_succ]
  refine wpAnyH_take (i := 17) (oi := { dst := some 35, op := _, type := _, pos := _, after := _, guard := _ }) (v := ?_) rfl (by kernel_rfl) (by kernel_rfl) (by kernel_rfl) (fun _ _ _ h => h) (Or.inl ⟨by rfl, ?_⟩) hHeld ?_
  rotate_left
  · (intro w hSw; obtain ⟨lu, cu⟩ := HU.out _ hSw; have u0 := cu 0; have u1 := cu 1; obtain ⟨lk, ck⟩ := HK.out _ hSw; have k0 := ck 0; have k1 := ck 1; simp at u0 u1 k0 k1; clear cu ck; go_simp <;> with_reducible rfl)
  try simp only [Act.put, List.setIfInBounds_toArray, List.set_cons_zero, List.set_cons_succ]
  refine wpAnyH_take (i := 18) (oi := { dst := some 36, op := _, type := _, pos := _, after := _, guard := _ }) (v := ?_) rfl (by kernel_rfl) (by kernel_rfl) (by kernel_rfl) (fun _ _ _ h => h) (Or.inl ⟨by rfl, ?_⟩) hHeld ?_
  rotate_left
  · (intro w hSw; obtain ⟨lu, cu⟩ := HU.out _ hSw; have u0 := cu 0; have u1 := cu 1; obtain ⟨lk, ck⟩ := HK.out _ hSw; have k0 := ck 0; have k1 := ck 1; simp at u0 u1 k0 k1; clear cu ck; go_simp <;> with_reducible rfl)
  try simp only [Act.put, List.setIfInBounds_toArray, List.set_cons_zero, List.set_cons_succ]
  refine wpAnyH_take (i := 20) (oi := { dst := some 38, op := _, type := _, pos := _, after := _, guard := _ }) (v := ?_) rfl (by kernel_rfl) (by kernel_rfl) (by kernel_rfl) (fun _ _ _ h => h) (Or.inl ⟨by rfl, ?_⟩) hHeld ?_
  rotate_left
  · (intro w hSw; obtain ⟨lu, cu⟩ := HU.out _ hSw; have u0 := cu 0; have u1 := cu 1; obtain ⟨lk, ck⟩ := HK.out _ hSw; have k0 := ck 0; have k1 := ck 1; simp at u0 u1 k0 k1; clear cu ck; go_simp <;> with_reducible rfl)
  try simp only [Act.put, List.setIfInBounds_toArray, List.set_cons_zero, List.set_cons_succ]
  refine wpAnyH_ready (rs := [19]) (by kernel_rfl) (by simp) ?_
  refine AllReadyH.cons (o := { dst := some 37, op := _, type := _, pos := _, after := _, guard := _ }) rfl (fun K hK => ?_) AllReadyH.nil
  go_simp
  refine (HWD.out _).mono ?_
  rintro e x5 ⟨⟨s1, A1, n1, d1, rfl, hf1, Y1⟩, hk5⟩
  have hKeep := since_step hHeld hk5
  have L1 := Y1.l128 H128.out
  go_wp2_with fail
  refine hK.out _ _ (by (try dsimp only); exact hKeep) (fun hHeld => ?_)
  clear hK K hKeep
  try simp only [Act.put, List.setIfInBounds_toArray, List.set_cons_zero, List.set_cons_succ]
  refine wpAnyH_ready (rs := [21]) (by kernel_rfl) (by simp) ?_
  refine AllReadyH.cons (o := { dst := some 39, op := _, type := _, pos := _, after := _, guard := _ }) rfl (fun K hK => ?_) AllReadyH.nil
  go_simp
  refine (HRT.out _ (HSL.out _ hHeld)).mono ?_
  rintro e x6 ⟨⟨s2, A2, n2, d2, rfl, hf2, Y2⟩, hk6⟩
  have hKeep := since_step hHeld hk6
  have L2 := Y2.l128 H128.out
  have Y1 := Y1.below hk6
  go_wp2_with fail
  refine hK.out _ _ (by (try dsimp only); exact hKeep) (fun hHeld => ?_)
  clear hK K hKeep
  try simp only [Act.put, List.setIfInBounds_toArray, List.set_cons_zero, List.set_cons_succ]
  refine wpAnyH_ready (rs := [22]) (by kernel_rfl) (by simp) ?_
  refine AllReadyH.cons (o := { dst := some 40, op := _, type := _, pos := _, after := _, guard := _ }) rfl (fun K hK => ?_) AllReadyH.nil
  go_simp
  refine (bcmp_any _ _ _ _ _ _ _ _ _ _ _ (by omega) (by omega) Y1 Y2).mono ?_
  rintro e x7 ⟨rfl, hk7⟩
  have hKeep := since_step hHeld hk7
  have hcz : cmpZ sm sm = 0 := by unfold cmpZ; rw [if_pos rfl]
  rw [hcz]
  go_wp2_with fail
  refine hK.out _ _ (by (try dsimp only); exact hKeep) (fun hHeld => ?_)
  clear hK K hKeep
  try simp only [Act.put, List.setIfInBounds_toArray, List.set_cons_zero, List.set_cons_succ]
  refine wpAnyH_take (i := 23) (oi := { dst := some 41, op := _, type := _, pos := _, after := _, guard := _ }) (v := ?_) rfl (by kernel_rfl) (by kernel_rfl) (by kernel_rfl) (fun _ _ _ h => h) (Or.inl ⟨by rfl, ?_⟩) hHeld ?_
  rotate_left
  · (intro w hSw; obtain ⟨lu, cu⟩ := HU.out _ hSw; have u0 := cu 0; have u1 := cu 1; obtain ⟨lk, ck⟩ := HK.out _ hSw; have k0 := ck 0; have k1 := ck 1; simp at u0 u1 k0 k1; clear cu ck; go_simp <;> with_reducible rfl)
  try simp only [Act.put, List.setIfInBounds_toArray, List.set_cons_zero, List.set_cons_succ]
  refine wpAnyH_take (i := 24) (oi := { dst := some 42, op := _, type := _, pos := _, after := _, guard := _ }) (v := ?_) rfl (by kernel_rfl) (by kernel_rfl) (by kernel_rfl) (fun _ _ _ h => h) (Or.inl ⟨by rfl, ?_⟩) hHeld ?_
  rotate_left
  · (intro w hSw; obtain ⟨lu, cu⟩ := HU.out _ hSw; have u0 := cu 0; have u1 := cu 1; obtain ⟨lk, ck⟩ := HK.out _ hSw; have k0 := ck 0; have k1 := ck 1; simp at u0 u1 k0 k1; clear cu ck; go_simp <;> with_reducible rfl)
  try simp only [Act.put, List.setIfInBounds_toArray, List.set_cons_zero, List.set_cons_succ]
  refine wpAnyH_done (by kernel_rfl) ?_ _
  have hBf := hB.trans (hHeld.mono hszU)
  have hsL := HSL.out _ hHeld
  have hsM := HSM1.out _ hHeld
  go_wp2_with fail
  refine (HP.out _ hsL hsM).mono ?_
  rintro e y1 ⟨⟨A1x, c1x, rfl, h1x⟩, hb⟩
  have hBf := since_step hBf hb
  have hsL := hsL.below hb
  have hsM := hsM.below hb
  clear hb
  go_wp2_with fail
  refine (HRP.out _ hsL hsM).mono ?_
  rintro e y2 ⟨⟨A2x, c2x, rfl, h2x⟩, hb⟩
  have hBf := since_step hBf hb
  have hsL := hsL.below hb
  have hsM := hsM.below hb
  have h1x := h1x.below hb
  clear hb
  clear hsL hsM
  go_wp2_with fail
  refine (HSM.out _ _ _ _ _ h1x h2x).mono ?_
  rintro e y3 ⟨rfl, hb⟩
  have hBf := since_step hBf hb
  have h1x := h1x.below hb
  have h2x := h2x.below hb
  clear hb
  go_wp2_with fail
  refine (HLV.out _).mono ?_
  rintro e y4 ⟨rfl, hb⟩
  have hBf := since_step hBf hb
  have h1x := h1x.below hb
  have h2x := h2x.below hb
  clear hb
  go_wp2_with fail
  go_ret
  exact ⟨rfl, hBf⟩
end Go.Proofs.Ytldnponbkhgijaa
