/-
  Layer 22, eighth part: groups, the document's side: Find, Same, set, Open, Alloc, Back, Table (laid by gen_block8.py).
-/
import Derived.Test.YtpnaihnmmnjacaaBlock7
import Derived.Test.YtpnaihnmmnjacaaBox
namespace Go.Proofs.Ytpnaihnmmnjacaa
open Go.ChangeShapes Go.WideShapes Go.ChangeAt Go.RowKit
set_option linter.unusedVariables false
set_option linter.unusedSimpArgs false

theorem list_eq_of {α : Type} {a b : List α} (hl : a.length = b.length) (h : ∀ j, (h1 : j < a.length) → (h2 : j < b.length) → a[j] = b[j]) : a = b := List.ext_getElem hl fun j h1 h2 => h j h1 h2
theorem Gr.Bx.farB {w w' : World} {B b : Nat} {g : Gr} (h : Gr.Bx w b g) (hb : Below B w w') (hB : b < B) : Gr.Bx w' b g :=
  ⟨Nat.lt_of_lt_of_le h.lt hb.size, Gr.at_keep h.at_ fun i => hb.cell (p := ⟨b, i, none⟩) hB, (hb.block b hB).trans h.hp⟩

def FindGRel (l : List Gr) (id : Int) (W0 : World) (i : Value) (wr : World) : Prop :=
  ∃ k : Nat, k ≤ l.length ∧ i = .int .i64 k ∧ (∀ j, (hj : j < l.length) → j < k → idG id l[j] = false) ∧ Below W0.heap.size W0 wr
set_option maxHeartbeats 4000000 in
set_option maxRecDepth 100000 in
theorem rgfind_any (A : Option Addr) (cap : Nat) (l : List Gr) (id : Int) (w : World) (hl : l.length ≤ 1000000) (hs : Sl w A (rc Gr.cells l)) :
    Calls Try.prog 76 #[.slice A l.length cap, .int .i64 id] w fun e w' => e = .returned (.tuple #[(findG l id).val, .bool (hasG l id)]) ∧ Below w.heap.size w w' := by
  have hB0 := since_alloc (Below.refl w.heap.size w) (.cells #[.int .i64 0, .int .i64 0, .int .i64 0, .int .i64 0, .int .i64 0, .int .i64 0] 102)
  have Bz0 := Bk.new w #[.int .i64 0, .int .i64 0, .int .i64 0, .int .i64 0, .int .i64 0, .int .i64 0] 102
  have hfz0 : ∀ i, (w.alloc (.cells #[.int .i64 0, .int .i64 0, .int .i64 0, .int .i64 0, .int .i64 0, .int .i64 0] 102)).frozen? ⟨w.heap.size, i, none⟩ = false := fun i => by simp
  have hs0 := hs.alloc (.cells #[.int .i64 0, .int .i64 0, .int .i64 0, .int .i64 0, .int .i64 0, .int .i64 0] 102)
  go_enter Try.func76, Try.ntmps76
  go_upto_region 1 with fail
  generalize hWW : w.alloc (.cells #[.int .i64 0, .int .i64 0, .int .i64 0, .int .i64 0, .int .i64 0, .int .i64 0] 102) = W0 at *
  clear hWW hs
  have hz1 : w.heap.size < W0.heap.size := Bz0.1
  have HZ : Hid (∀ V, Below W0.heap.size W0 V → Bk V w.heap.size #[.int .i64 0, .int .i64 0, .int .i64 0, .int .i64 0, .int .i64 0, .int .i64 0] ∧ ∀ i, V.frozen? ⟨w.heap.size, i, none⟩ = false) := Lib.hid fun V hV =>
    ⟨Bz0.below hV, fun i => by rw [(hV.frozen (p := ⟨w.heap.size, i, none⟩) hz1)]; exact hfz0 i⟩
  clear Bz0 hfz0
  go_wp2_with fail
  go_loopw [6] (fun i wr => FindGRel l id W0 i wr) (fun i _ => l.length - (intOf i).toNat)
  case atStart => exact ⟨0, by omega, rfl, fun j hj h => absurd h (by omega), Below.refl _ _⟩
  case round =>
    obtain ⟨k, hk, rfl, hno, hB⟩ := hrel
    have hB3 := hB0.trans (hB.mono (Nat.le_of_lt hz1))
    obtain ⟨⟨lb, cb⟩, hfz⟩ := HZ.out wr hB
    have q0 := cb 0
    have q1 := cb 1
    have q2 := cb 2
    have q3 := cb 3
    have q4 := cb 4
    have q5 := cb 5
    simp at q0 q1 q2 q3 q4 q5
    have hcs := @cell_set
    clear cb
    by_cases hlt2 : k < l.length
    · obtain ⟨b, o, rfl, hbw, hg⟩ := hs0.gr hlt2
      have hg1 : l[k].at wr b (o + k * 6) := Gr.at_keep (w := W0) hg fun i => hB.cell (p := ⟨b, i, none⟩) hbw
      have HX : Hid (∀ q : Bool, idG id l[k] = q → if q then findG l id = l[k] ∧ hasG l id = true else ∀ j, (hj : j < l.length) → j < k + 1 → idG id l[j] = false) := Lib.hid fun q hq => by
        cases q with
        | true =>
          have := find_some hlt2 (fun j hj => hno j (by omega) hj) hq
          exact ⟨by rw [findG, pickL, this]; rfl, by rw [hasG, this]; rfl⟩
        | false =>
          intro j hj hjk
          rcases Nat.lt_or_ge j k with h | h
          · exact hno j hj h
          · obtain rfl : j = k := by omega
            exact hq
      have hlk : (k : Int) < (l.length : Int) := by omega
      clear hg hs0 hbw hno
      generalize l[k] = v at hg1 HX
      obtain ⟨vid, v1, v2, v3, v4, v5⟩ := v
      obtain ⟨g0, g1, g2, g3, g4, g5⟩ := hg1
      simp only at g0 g1 g2 g3 g4 g5
      by_cases h1 : vid = id
      · subst h1
        have HF := Lib.hid (show findG l vid = _ ∧ hasG l vid = true by simpa using HX.out true (by simp [idG]))
        clear HX
        go_wp2_with fail
        refine bodyPost_ret (v := .tuple #[(⟨vid, v1, v2, v3, v4, v5⟩ : Gr).val, .bool true]) ?_ rfl ⟨?_, ?_⟩
        · simp [results, Try.results76, go_sem, q0, q1, q2, q3, q4, q5, hfz, Gr.val]
        · rw [HF.out.1, HF.out.2]
        · repeat' (first | with_reducible exact hB3 | with_reducible refine Below.drew ?_ | with_reducible refine Below.setCell ?_ ?_ _ | with_reducible refine Below.alloc ?_ ?_ _)
          all_goals exact Nat.le_refl _
      · have HN := Lib.hid (show ∀ j, (hj : j < l.length) → j < k + 1 → idG id l[j] = false by simpa using HX.out false (by simp [idG, h1]))
        have h1b : (vid == id) = false := by simpa using h1
        clear HX h1
        go_wp2_with fail
        go_roundw
        case rel => exact ⟨k + 1, by omega, by go_num, HN.out, hB⟩
        case measure => simp [intOf]; omega
    · have hfn := find_none (p := idG id) fun j hj => hno j hj (by omega)
      have HF := Lib.hid (show findG l id = Gr.zero ∧ hasG l id = false from ⟨by rw [findG, pickL, hfn]; rfl, by rw [hasG, hfn]; rfl⟩)
      clear hno hfn HZ
      go_wp2_with fail
      refine bodyPost_ret (v := .tuple #[Gr.zero.val, .bool false]) ?_ rfl ⟨?_, ?_⟩
      · simp [results, Try.results76, go_sem, q0, q1, q2, q3, q4, q5, hfz, Gr.val, Gr.zero]
      · rw [HF.out.1, HF.out.2]
      · repeat' (first | with_reducible exact hB3 | with_reducible refine Below.setCell ?_ ?_ _ | with_reducible refine Below.alloc ?_ ?_ _)
        all_goals exact Nat.le_refl _

set_option maxHeartbeats 4000000 in
set_option maxRecDepth 100000 in
theorem gsame_any (A A2 : Option Addr) (cap cap2 : Nat) (l m : List Gr) (w : World) (hl : l.length ≤ 1000000) (hs : Sl w A (rc Gr.cells l)) (hs2 : Sl w A2 (rc Gr.cells m)) :
    Calls Try.prog 77 #[.slice A l.length cap, .slice A2 m.length cap2] w fun e w' => e = .returned (.bool (decide (l = m))) ∧ Below w.heap.size w w' := by
  by_cases hlen : l.length = m.length
  · go_enter Try.func77, Try.ntmps77
    rw [← hlen]
    have HLM := Lib.hid hlen
    clear hlen
    go_wp2_with fail
    go_loopw [5] (fun i wr => ∃ k : Nat, k ≤ l.length ∧ i = .int .i64 k ∧ (∀ j, (h1 : j < l.length) → (h2 : j < m.length) → j < k → l[j] = m[j]) ∧ Below w.heap.size w wr) (fun i _ => l.length - (intOf i).toNat)
    case atStart => exact ⟨0, by omega, rfl, fun j _ _ h => absurd h (by omega), Below.refl _ _⟩
    case round =>
      obtain ⟨k, hk, rfl, hno, hB⟩ := hrel
      by_cases hlt : k < l.length
      · have hlt2 : k < m.length := by rw [← HLM.out]; exact hlt
        obtain ⟨b, o, rfl, hbw, hg⟩ := hs.gr hlt
        obtain ⟨b2, o2, rfl, hbw2, hg2⟩ := hs2.gr hlt2
        have hbr : b < wr.heap.size := Nat.lt_of_lt_of_le hbw hB.size
        have hbr2 : b2 < wr.heap.size := Nat.lt_of_lt_of_le hbw2 hB.size
        have hsz : w.heap.size ≤ wr.heap.size := hB.size
        have HK1 : Hid (∀ V, Below wr.heap.size wr V → l[k].at V b (o + k * 6)) := Lib.hid fun V hV =>
          Gr.at_keep hg fun i => (hV.cell (p := ⟨b, i, none⟩) hbr).trans (hB.cell (p := ⟨b, i, none⟩) hbw)
        have HK0 : Hid (∀ V, Below wr.heap.size wr V → m[k].at V b2 (o2 + k * 6)) := Lib.hid fun V hV =>
          Gr.at_keep hg2 fun i => (hV.cell (p := ⟨b2, i, none⟩) hbr2).trans (hB.cell (p := ⟨b2, i, none⟩) hbw2)
        have HX : Hid (if l[k] = m[k] then (∀ j, (h1 : j < l.length) → (h2 : j < m.length) → j < k + 1 → l[j] = m[j]) else decide (l = m) = false) := Lib.hid (by
          split
          · rename_i he
            intro j h1 h2 hj
            rcases Nat.lt_or_ge j k with h | h
            · exact hno j h1 h2 h
            · obtain rfl : j = k := by omega
              exact he
          · rename_i he
            rw [decide_eq_false]
            intro e
            subst e
            exact he rfl)
        have hlk : (k : Int) < (l.length : Int) := by omega
        clear hno hs hs2 hg hg2 hbw hbw2
        generalize l[k] = v at HK1 HX
        generalize m[k] = u at HK0 HX
        obtain ⟨f0, f1, f2, f3, f4, f5⟩ := v
        obtain ⟨e0, e1, e2, e3, e4, e5⟩ := u
        unfold Gr.at at HK1 HK0
        simp only at HK1 HK0
        by_cases d0 : f0 = e0
        · subst d0
          by_cases d1 : f1 = e1
          · subst d1
            by_cases d2 : f2 = e2
            · subst d2
              by_cases d3 : f3 = e3
              · subst d3
                by_cases d4 : f4 = e4
                · subst d4
                  by_cases d5 : f5 = e5
                  · subst d5
                    have HN : Hid (∀ j, (h1 : j < l.length) → (h2 : j < m.length) → j < k + 1 → l[j] = m[j]) := Lib.hid (by have := HX.out; rw [if_pos rfl] at this; exact this)
                    clear HX
                    go_wp2_with fail
                    refine wp_region_held_drew (S := (fun V => Below wr.heap.size wr V)) (by kernel_rfl) (by exact (Below.refl _ _).drew) (fun hHeld => ?_)
                    refine wpAnyH_take (i := 0) (oi := { dst := some 17, op := _, type := _, pos := _, after := _, guard := _ }) (v := ?_) rfl (by kernel_rfl) (by kernel_rfl) (by kernel_rfl) (fun _ _ _ h => h) (Or.inl ⟨by rfl, ?_⟩) hHeld ?_
                    rotate_left
                    · (intro w hSw; obtain ⟨g0, g1, g2, g3, g4, g5⟩ := HK1.out _ hSw; obtain ⟨h0, h1, h2, h3, h4, h5⟩ := HK0.out _ hSw; go_simp <;> with_reducible rfl)
                    try simp only [Act.put, List.setIfInBounds_toArray, List.set_cons_zero, List.set_cons_succ]
                    refine wpAnyH_take (i := 1) (oi := { dst := some 18, op := _, type := _, pos := _, after := _, guard := _ }) (v := ?_) rfl (by kernel_rfl) (by kernel_rfl) (by kernel_rfl) (fun _ _ _ h => h) (Or.inl ⟨by rfl, ?_⟩) hHeld ?_
                    rotate_left
                    · (intro w hSw; obtain ⟨g0, g1, g2, g3, g4, g5⟩ := HK1.out _ hSw; obtain ⟨h0, h1, h2, h3, h4, h5⟩ := HK0.out _ hSw; go_simp <;> with_reducible rfl)
                    try simp only [Act.put, List.setIfInBounds_toArray, List.set_cons_zero, List.set_cons_succ]
                    refine wpAnyH_take (i := 2) (oi := { dst := some 19, op := _, type := _, pos := _, after := _, guard := _ }) (v := ?_) rfl (by kernel_rfl) (by kernel_rfl) (by kernel_rfl) (fun _ _ _ h => h) (Or.inl ⟨by rfl, ?_⟩) hHeld ?_
                    rotate_left
                    · (intro w hSw; obtain ⟨g0, g1, g2, g3, g4, g5⟩ := HK1.out _ hSw; obtain ⟨h0, h1, h2, h3, h4, h5⟩ := HK0.out _ hSw; go_simp <;> with_reducible rfl)
                    try simp only [Act.put, List.setIfInBounds_toArray, List.set_cons_zero, List.set_cons_succ]
                    refine wpAnyH_take (i := 3) (oi := { dst := some 20, op := _, type := _, pos := _, after := _, guard := _ }) (v := ?_) rfl (by kernel_rfl) (by kernel_rfl) (by kernel_rfl) (fun _ _ _ h => h) (Or.inl ⟨by rfl, ?_⟩) hHeld ?_
                    rotate_left
                    · (intro w hSw; obtain ⟨g0, g1, g2, g3, g4, g5⟩ := HK1.out _ hSw; obtain ⟨h0, h1, h2, h3, h4, h5⟩ := HK0.out _ hSw; go_simp <;> with_reducible rfl)
                    try simp only [Act.put, List.setIfInBounds_toArray, List.set_cons_zero, List.set_cons_succ]
                    refine wpAnyH_take (i := 4) (oi := { dst := some 21, op := _, type := _, pos := _, after := _, guard := _ }) (v := ?_) rfl (by kernel_rfl) (by kernel_rfl) (by kernel_rfl) (fun _ _ _ h => h) (Or.inl ⟨by rfl, ?_⟩) hHeld ?_
                    rotate_left
                    · (intro w hSw; obtain ⟨g0, g1, g2, g3, g4, g5⟩ := HK1.out _ hSw; obtain ⟨h0, h1, h2, h3, h4, h5⟩ := HK0.out _ hSw; go_simp <;> with_reducible rfl)
                    try simp only [Act.put, List.setIfInBounds_toArray, List.set_cons_zero, List.set_cons_succ]
                    refine wpAnyH_take (i := 5) (oi := { dst := some 22, op := _, type := _, pos := _, after := _, guard := _ }) (v := ?_) rfl (by kernel_rfl) (by kernel_rfl) (by kernel_rfl) (fun _ _ _ h => h) (Or.inl ⟨by rfl, ?_⟩) hHeld ?_
                    rotate_left
                    · (intro w hSw; obtain ⟨g0, g1, g2, g3, g4, g5⟩ := HK1.out _ hSw; obtain ⟨h0, h1, h2, h3, h4, h5⟩ := HK0.out _ hSw; go_simp <;> with_reducible rfl)
                    try simp only [Act.put, List.setIfInBounds_toArray, List.set_cons_zero, List.set_cons_succ]
                    refine wpAnyH_take (i := 6) (oi := { dst := some 23, op := _, type := _, pos := _, after := _, guard := _ }) (v := ?_) rfl (by kernel_rfl) (by kernel_rfl) (by kernel_rfl) (fun _ _ _ h => h) (Or.inl ⟨by rfl, ?_⟩) hHeld ?_
                    rotate_left
                    · (intro w hSw; obtain ⟨g0, g1, g2, g3, g4, g5⟩ := HK1.out _ hSw; obtain ⟨h0, h1, h2, h3, h4, h5⟩ := HK0.out _ hSw; go_simp <;> with_reducible rfl)
                    try simp only [Act.put, List.setIfInBounds_toArray, List.set_cons_zero, List.set_cons_succ]
                    refine wpAnyH_take (i := 7) (oi := { dst := some 24, op := _, type := _, pos := _, after := _, guard := _ }) (v := ?_) rfl (by kernel_rfl) (by kernel_rfl) (by kernel_rfl) (fun _ _ _ h => h) (Or.inl ⟨by rfl, ?_⟩) hHeld ?_
                    rotate_left
                    · (intro w hSw; obtain ⟨g0, g1, g2, g3, g4, g5⟩ := HK1.out _ hSw; obtain ⟨h0, h1, h2, h3, h4, h5⟩ := HK0.out _ hSw; go_simp <;> with_reducible rfl)
                    try simp only [Act.put, List.setIfInBounds_toArray, List.set_cons_zero, List.set_cons_succ]
                    refine wpAnyH_take (i := 8) (oi := { dst := some 25, op := _, type := _, pos := _, after := _, guard := _ }) (v := ?_) rfl (by kernel_rfl) (by kernel_rfl) (by kernel_rfl) (fun _ _ _ h => h) (Or.inl ⟨by rfl, ?_⟩) hHeld ?_
                    rotate_left
                    · (intro w hSw; obtain ⟨g0, g1, g2, g3, g4, g5⟩ := HK1.out _ hSw; obtain ⟨h0, h1, h2, h3, h4, h5⟩ := HK0.out _ hSw; go_simp <;> with_reducible rfl)
                    try simp only [Act.put, List.setIfInBounds_toArray, List.set_cons_zero, List.set_cons_succ]
                    refine wpAnyH_done (by kernel_rfl) ?_ _
                    have hB2 := hB.trans (hHeld.mono hsz)
                    go_wp2_with fail
                    go_roundw
                    case rel => exact ⟨k + 1, by omega, by go_num, HN.out, hB2⟩
                    case measure => simp [intOf]; omega
                  · have HN : Hid (decide (l = m) = false) := Lib.hid (by have := HX.out; rw [if_neg (by simp [d5])] at this; exact this)
                    clear HX
                    go_wp2_with fail
                    refine wp_region_held_drew (S := (fun V => Below wr.heap.size wr V)) (by kernel_rfl) (by exact (Below.refl _ _).drew) (fun hHeld => ?_)
                    refine wpAnyH_take (i := 0) (oi := { dst := some 17, op := _, type := _, pos := _, after := _, guard := _ }) (v := ?_) rfl (by kernel_rfl) (by kernel_rfl) (by kernel_rfl) (fun _ _ _ h => h) (Or.inl ⟨by rfl, ?_⟩) hHeld ?_
                    rotate_left
                    · (intro w hSw; obtain ⟨g0, g1, g2, g3, g4, g5⟩ := HK1.out _ hSw; obtain ⟨h0, h1, h2, h3, h4, h5⟩ := HK0.out _ hSw; go_simp <;> with_reducible rfl)
                    try simp only [Act.put, List.setIfInBounds_toArray, List.set_cons_zero, List.set_cons_succ]
                    refine wpAnyH_take (i := 1) (oi := { dst := some 18, op := _, type := _, pos := _, after := _, guard := _ }) (v := ?_) rfl (by kernel_rfl) (by kernel_rfl) (by kernel_rfl) (fun _ _ _ h => h) (Or.inl ⟨by rfl, ?_⟩) hHeld ?_
                    rotate_left
                    · (intro w hSw; obtain ⟨g0, g1, g2, g3, g4, g5⟩ := HK1.out _ hSw; obtain ⟨h0, h1, h2, h3, h4, h5⟩ := HK0.out _ hSw; go_simp <;> with_reducible rfl)
                    try simp only [Act.put, List.setIfInBounds_toArray, List.set_cons_zero, List.set_cons_succ]
                    refine wpAnyH_take (i := 2) (oi := { dst := some 19, op := _, type := _, pos := _, after := _, guard := _ }) (v := ?_) rfl (by kernel_rfl) (by kernel_rfl) (by kernel_rfl) (fun _ _ _ h => h) (Or.inl ⟨by rfl, ?_⟩) hHeld ?_
                    rotate_left
                    · (intro w hSw; obtain ⟨g0, g1, g2, g3, g4, g5⟩ := HK1.out _ hSw; obtain ⟨h0, h1, h2, h3, h4, h5⟩ := HK0.out _ hSw; go_simp <;> with_reducible rfl)
                    try simp only [Act.put, List.setIfInBounds_toArray, List.set_cons_zero, List.set_cons_succ]
                    refine wpAnyH_take (i := 3) (oi := { dst := some 20, op := _, type := _, pos := _, after := _, guard := _ }) (v := ?_) rfl (by kernel_rfl) (by kernel_rfl) (by kernel_rfl) (fun _ _ _ h => h) (Or.inl ⟨by rfl, ?_⟩) hHeld ?_
                    rotate_left
                    · (intro w hSw; obtain ⟨g0, g1, g2, g3, g4, g5⟩ := HK1.out _ hSw; obtain ⟨h0, h1, h2, h3, h4, h5⟩ := HK0.out _ hSw; go_simp <;> with_reducible rfl)
                    try simp only [Act.put, List.setIfInBounds_toArray, List.set_cons_zero, List.set_cons_succ]
                    refine wpAnyH_take (i := 4) (oi := { dst := some 21, op := _, type := _, pos := _, after := _, guard := _ }) (v := ?_) rfl (by kernel_rfl) (by kernel_rfl) (by kernel_rfl) (fun _ _ _ h => h) (Or.inl ⟨by rfl, ?_⟩) hHeld ?_
                    rotate_left
                    · (intro w hSw; obtain ⟨g0, g1, g2, g3, g4, g5⟩ := HK1.out _ hSw; obtain ⟨h0, h1, h2, h3, h4, h5⟩ := HK0.out _ hSw; go_simp <;> with_reducible rfl)
                    try simp only [Act.put, List.setIfInBounds_toArray, List.set_cons_zero, List.set_cons_succ]
                    refine wpAnyH_take (i := 5) (oi := { dst := some 22, op := _, type := _, pos := _, after := _, guard := _ }) (v := ?_) rfl (by kernel_rfl) (by kernel_rfl) (by kernel_rfl) (fun _ _ _ h => h) (Or.inl ⟨by rfl, ?_⟩) hHeld ?_
                    rotate_left
                    · (intro w hSw; obtain ⟨g0, g1, g2, g3, g4, g5⟩ := HK1.out _ hSw; obtain ⟨h0, h1, h2, h3, h4, h5⟩ := HK0.out _ hSw; go_simp <;> with_reducible rfl)
                    try simp only [Act.put, List.setIfInBounds_toArray, List.set_cons_zero, List.set_cons_succ]
                    refine wpAnyH_take (i := 6) (oi := { dst := some 23, op := _, type := _, pos := _, after := _, guard := _ }) (v := ?_) rfl (by kernel_rfl) (by kernel_rfl) (by kernel_rfl) (fun _ _ _ h => h) (Or.inl ⟨by rfl, ?_⟩) hHeld ?_
                    rotate_left
                    · (intro w hSw; obtain ⟨g0, g1, g2, g3, g4, g5⟩ := HK1.out _ hSw; obtain ⟨h0, h1, h2, h3, h4, h5⟩ := HK0.out _ hSw; go_simp <;> with_reducible rfl)
                    try simp only [Act.put, List.setIfInBounds_toArray, List.set_cons_zero, List.set_cons_succ]
                    refine wpAnyH_take (i := 7) (oi := { dst := some 24, op := _, type := _, pos := _, after := _, guard := _ }) (v := ?_) rfl (by kernel_rfl) (by kernel_rfl) (by kernel_rfl) (fun _ _ _ h => h) (Or.inl ⟨by rfl, ?_⟩) hHeld ?_
                    rotate_left
                    · (intro w hSw; obtain ⟨g0, g1, g2, g3, g4, g5⟩ := HK1.out _ hSw; obtain ⟨h0, h1, h2, h3, h4, h5⟩ := HK0.out _ hSw; go_simp <;> with_reducible rfl)
                    try simp only [Act.put, List.setIfInBounds_toArray, List.set_cons_zero, List.set_cons_succ]
                    refine wpAnyH_take (i := 8) (oi := { dst := some 25, op := _, type := _, pos := _, after := _, guard := _ }) (v := ?_) rfl (by kernel_rfl) (by kernel_rfl) (by kernel_rfl) (fun _ _ _ h => h) (Or.inl ⟨by rfl, ?_⟩) hHeld ?_
                    rotate_left
                    · (intro w hSw; obtain ⟨g0, g1, g2, g3, g4, g5⟩ := HK1.out _ hSw; obtain ⟨h0, h1, h2, h3, h4, h5⟩ := HK0.out _ hSw; go_simp <;> with_reducible rfl)
                    try simp only [Act.put, List.setIfInBounds_toArray, List.set_cons_zero, List.set_cons_succ]
                    refine wpAnyH_done (by kernel_rfl) ?_ _
                    have hB2 := hB.trans (hHeld.mono hsz)
                    go_wp2_with fail
                    go_ret
                    exact ⟨retB HN.out.symm, hB2⟩
                · have HN : Hid (decide (l = m) = false) := Lib.hid (by have := HX.out; rw [if_neg (by simp [d4])] at this; exact this)
                  clear HX
                  go_wp2_with fail
                  refine wp_region_held_drew (S := (fun V => Below wr.heap.size wr V)) (by kernel_rfl) (by exact (Below.refl _ _).drew) (fun hHeld => ?_)
                  refine wpAnyH_take (i := 0) (oi := { dst := some 17, op := _, type := _, pos := _, after := _, guard := _ }) (v := ?_) rfl (by kernel_rfl) (by kernel_rfl) (by kernel_rfl) (fun _ _ _ h => h) (Or.inl ⟨by rfl, ?_⟩) hHeld ?_
                  rotate_left
                  · (intro w hSw; obtain ⟨g0, g1, g2, g3, g4, g5⟩ := HK1.out _ hSw; obtain ⟨h0, h1, h2, h3, h4, h5⟩ := HK0.out _ hSw; go_simp <;> with_reducible rfl)
                  try simp only [Act.put, List.setIfInBounds_toArray, List.set_cons_zero, List.set_cons_succ]
                  refine wpAnyH_take (i := 1) (oi := { dst := some 18, op := _, type := _, pos := _, after := _, guard := _ }) (v := ?_) rfl (by kernel_rfl) (by kernel_rfl) (by kernel_rfl) (fun _ _ _ h => h) (Or.inl ⟨by rfl, ?_⟩) hHeld ?_
                  rotate_left
                  · (intro w hSw; obtain ⟨g0, g1, g2, g3, g4, g5⟩ := HK1.out _ hSw; obtain ⟨h0, h1, h2, h3, h4, h5⟩ := HK0.out _ hSw; go_simp <;> with_reducible rfl)
                  try simp only [Act.put, List.setIfInBounds_toArray, List.set_cons_zero, List.set_cons_succ]
                  refine wpAnyH_take (i := 2) (oi := { dst := some 19, op := _, type := _, pos := _, after := _, guard := _ }) (v := ?_) rfl (by kernel_rfl) (by kernel_rfl) (by kernel_rfl) (fun _ _ _ h => h) (Or.inl ⟨by rfl, ?_⟩) hHeld ?_
                  rotate_left
                  · (intro w hSw; obtain ⟨g0, g1, g2, g3, g4, g5⟩ := HK1.out _ hSw; obtain ⟨h0, h1, h2, h3, h4, h5⟩ := HK0.out _ hSw; go_simp <;> with_reducible rfl)
                  try simp only [Act.put, List.setIfInBounds_toArray, List.set_cons_zero, List.set_cons_succ]
                  refine wpAnyH_take (i := 3) (oi := { dst := some 20, op := _, type := _, pos := _, after := _, guard := _ }) (v := ?_) rfl (by kernel_rfl) (by kernel_rfl) (by kernel_rfl) (fun _ _ _ h => h) (Or.inl ⟨by rfl, ?_⟩) hHeld ?_
                  rotate_left
                  · (intro w hSw; obtain ⟨g0, g1, g2, g3, g4, g5⟩ := HK1.out _ hSw; obtain ⟨h0, h1, h2, h3, h4, h5⟩ := HK0.out _ hSw; go_simp <;> with_reducible rfl)
                  try simp only [Act.put, List.setIfInBounds_toArray, List.set_cons_zero, List.set_cons_succ]
                  refine wpAnyH_take (i := 4) (oi := { dst := some 21, op := _, type := _, pos := _, after := _, guard := _ }) (v := ?_) rfl (by kernel_rfl) (by kernel_rfl) (by kernel_rfl) (fun _ _ _ h => h) (Or.inl ⟨by rfl, ?_⟩) hHeld ?_
                  rotate_left
                  · (intro w hSw; obtain ⟨g0, g1, g2, g3, g4, g5⟩ := HK1.out _ hSw; obtain ⟨h0, h1, h2, h3, h4, h5⟩ := HK0.out _ hSw; go_simp <;> with_reducible rfl)
                  try simp only [Act.put, List.setIfInBounds_toArray, List.set_cons_zero, List.set_cons_succ]
                  refine wpAnyH_take (i := 5) (oi := { dst := some 22, op := _, type := _, pos := _, after := _, guard := _ }) (v := ?_) rfl (by kernel_rfl) (by kernel_rfl) (by kernel_rfl) (fun _ _ _ h => h) (Or.inl ⟨by rfl, ?_⟩) hHeld ?_
                  rotate_left
                  · (intro w hSw; obtain ⟨g0, g1, g2, g3, g4, g5⟩ := HK1.out _ hSw; obtain ⟨h0, h1, h2, h3, h4, h5⟩ := HK0.out _ hSw; go_simp <;> with_reducible rfl)
                  try simp only [Act.put, List.setIfInBounds_toArray, List.set_cons_zero, List.set_cons_succ]
                  refine wpAnyH_take (i := 6) (oi := { dst := some 23, op := _, type := _, pos := _, after := _, guard := _ }) (v := ?_) rfl (by kernel_rfl) (by kernel_rfl) (by kernel_rfl) (fun _ _ _ h => h) (Or.inl ⟨by rfl, ?_⟩) hHeld ?_
                  rotate_left
                  · (intro w hSw; obtain ⟨g0, g1, g2, g3, g4, g5⟩ := HK1.out _ hSw; obtain ⟨h0, h1, h2, h3, h4, h5⟩ := HK0.out _ hSw; go_simp <;> with_reducible rfl)
                  try simp only [Act.put, List.setIfInBounds_toArray, List.set_cons_zero, List.set_cons_succ]
                  refine wpAnyH_take (i := 7) (oi := { dst := some 24, op := _, type := _, pos := _, after := _, guard := _ }) (v := ?_) rfl (by kernel_rfl) (by kernel_rfl) (by kernel_rfl) (fun _ _ _ h => h) (Or.inl ⟨by rfl, ?_⟩) hHeld ?_
                  rotate_left
                  · (intro w hSw; obtain ⟨g0, g1, g2, g3, g4, g5⟩ := HK1.out _ hSw; obtain ⟨h0, h1, h2, h3, h4, h5⟩ := HK0.out _ hSw; go_simp <;> with_reducible rfl)
                  try simp only [Act.put, List.setIfInBounds_toArray, List.set_cons_zero, List.set_cons_succ]
                  refine wpAnyH_take (i := 8) (oi := { dst := some 25, op := _, type := _, pos := _, after := _, guard := _ }) (v := ?_) rfl (by kernel_rfl) (by kernel_rfl) (by kernel_rfl) (fun _ _ _ h => h) (Or.inl ⟨by rfl, ?_⟩) hHeld ?_
                  rotate_left
                  · (intro w hSw; obtain ⟨g0, g1, g2, g3, g4, g5⟩ := HK1.out _ hSw; obtain ⟨h0, h1, h2, h3, h4, h5⟩ := HK0.out _ hSw; go_simp <;> with_reducible rfl)
                  try simp only [Act.put, List.setIfInBounds_toArray, List.set_cons_zero, List.set_cons_succ]
                  refine wpAnyH_done (by kernel_rfl) ?_ _
                  have hB2 := hB.trans (hHeld.mono hsz)
                  go_wp2_with fail
                  go_ret
                  exact ⟨retB HN.out.symm, hB2⟩
              · have HN : Hid (decide (l = m) = false) := Lib.hid (by have := HX.out; rw [if_neg (by simp [d3])] at this; exact this)
                clear HX
                go_wp2_with fail
                refine wp_region_held_drew (S := (fun V => Below wr.heap.size wr V)) (by kernel_rfl) (by exact (Below.refl _ _).drew) (fun hHeld => ?_)
                refine wpAnyH_take (i := 0) (oi := { dst := some 17, op := _, type := _, pos := _, after := _, guard := _ }) (v := ?_) rfl (by kernel_rfl) (by kernel_rfl) (by kernel_rfl) (fun _ _ _ h => h) (Or.inl ⟨by rfl, ?_⟩) hHeld ?_
                rotate_left
                · (intro w hSw; obtain ⟨g0, g1, g2, g3, g4, g5⟩ := HK1.out _ hSw; obtain ⟨h0, h1, h2, h3, h4, h5⟩ := HK0.out _ hSw; go_simp <;> with_reducible rfl)
                try simp only [Act.put, List.setIfInBounds_toArray, List.set_cons_zero, List.set_cons_succ]
                refine wpAnyH_take (i := 1) (oi := { dst := some 18, op := _, type := _, pos := _, after := _, guard := _ }) (v := ?_) rfl (by kernel_rfl) (by kernel_rfl) (by kernel_rfl) (fun _ _ _ h => h) (Or.inl ⟨by rfl, ?_⟩) hHeld ?_
                rotate_left
                · (intro w hSw; obtain ⟨g0, g1, g2, g3, g4, g5⟩ := HK1.out _ hSw; obtain ⟨h0, h1, h2, h3, h4, h5⟩ := HK0.out _ hSw; go_simp <;> with_reducible rfl)
                try simp only [Act.put, List.setIfInBounds_toArray, List.set_cons_zero, List.set_cons_succ]
                refine wpAnyH_take (i := 2) (oi := { dst := some 19, op := _, type := _, pos := _, after := _, guard := _ }) (v := ?_) rfl (by kernel_rfl) (by kernel_rfl) (by kernel_rfl) (fun _ _ _ h => h) (Or.inl ⟨by rfl, ?_⟩) hHeld ?_
                rotate_left
                · (intro w hSw; obtain ⟨g0, g1, g2, g3, g4, g5⟩ := HK1.out _ hSw; obtain ⟨h0, h1, h2, h3, h4, h5⟩ := HK0.out _ hSw; go_simp <;> with_reducible rfl)
                try simp only [Act.put, List.setIfInBounds_toArray, List.set_cons_zero, List.set_cons_succ]
                refine wpAnyH_take (i := 3) (oi := { dst := some 20, op := _, type := _, pos := _, after := _, guard := _ }) (v := ?_) rfl (by kernel_rfl) (by kernel_rfl) (by kernel_rfl) (fun _ _ _ h => h) (Or.inl ⟨by rfl, ?_⟩) hHeld ?_
                rotate_left
                · (intro w hSw; obtain ⟨g0, g1, g2, g3, g4, g5⟩ := HK1.out _ hSw; obtain ⟨h0, h1, h2, h3, h4, h5⟩ := HK0.out _ hSw; go_simp <;> with_reducible rfl)
                try simp only [Act.put, List.setIfInBounds_toArray, List.set_cons_zero, List.set_cons_succ]
                refine wpAnyH_take (i := 4) (oi := { dst := some 21, op := _, type := _, pos := _, after := _, guard := _ }) (v := ?_) rfl (by kernel_rfl) (by kernel_rfl) (by kernel_rfl) (fun _ _ _ h => h) (Or.inl ⟨by rfl, ?_⟩) hHeld ?_
                rotate_left
                · (intro w hSw; obtain ⟨g0, g1, g2, g3, g4, g5⟩ := HK1.out _ hSw; obtain ⟨h0, h1, h2, h3, h4, h5⟩ := HK0.out _ hSw; go_simp <;> with_reducible rfl)
                try simp only [Act.put, List.setIfInBounds_toArray, List.set_cons_zero, List.set_cons_succ]
                refine wpAnyH_take (i := 5) (oi := { dst := some 22, op := _, type := _, pos := _, after := _, guard := _ }) (v := ?_) rfl (by kernel_rfl) (by kernel_rfl) (by kernel_rfl) (fun _ _ _ h => h) (Or.inl ⟨by rfl, ?_⟩) hHeld ?_
                rotate_left
                · (intro w hSw; obtain ⟨g0, g1, g2, g3, g4, g5⟩ := HK1.out _ hSw; obtain ⟨h0, h1, h2, h3, h4, h5⟩ := HK0.out _ hSw; go_simp <;> with_reducible rfl)
                try simp only [Act.put, List.setIfInBounds_toArray, List.set_cons_zero, List.set_cons_succ]
                refine wpAnyH_take (i := 6) (oi := { dst := some 23, op := _, type := _, pos := _, after := _, guard := _ }) (v := ?_) rfl (by kernel_rfl) (by kernel_rfl) (by kernel_rfl) (fun _ _ _ h => h) (Or.inl ⟨by rfl, ?_⟩) hHeld ?_
                rotate_left
                · (intro w hSw; obtain ⟨g0, g1, g2, g3, g4, g5⟩ := HK1.out _ hSw; obtain ⟨h0, h1, h2, h3, h4, h5⟩ := HK0.out _ hSw; go_simp <;> with_reducible rfl)
                try simp only [Act.put, List.setIfInBounds_toArray, List.set_cons_zero, List.set_cons_succ]
                refine wpAnyH_take (i := 7) (oi := { dst := some 24, op := _, type := _, pos := _, after := _, guard := _ }) (v := ?_) rfl (by kernel_rfl) (by kernel_rfl) (by kernel_rfl) (fun _ _ _ h => h) (Or.inl ⟨by rfl, ?_⟩) hHeld ?_
                rotate_left
                · (intro w hSw; obtain ⟨g0, g1, g2, g3, g4, g5⟩ := HK1.out _ hSw; obtain ⟨h0, h1, h2, h3, h4, h5⟩ := HK0.out _ hSw; go_simp <;> with_reducible rfl)
                try simp only [Act.put, List.setIfInBounds_toArray, List.set_cons_zero, List.set_cons_succ]
                refine wpAnyH_take (i := 8) (oi := { dst := some 25, op := _, type := _, pos := _, after := _, guard := _ }) (v := ?_) rfl (by kernel_rfl) (by kernel_rfl) (by kernel_rfl) (fun _ _ _ h => h) (Or.inl ⟨by rfl, ?_⟩) hHeld ?_
                rotate_left
                · (intro w hSw; obtain ⟨g0, g1, g2, g3, g4, g5⟩ := HK1.out _ hSw; obtain ⟨h0, h1, h2, h3, h4, h5⟩ := HK0.out _ hSw; go_simp <;> with_reducible rfl)
                try simp only [Act.put, List.setIfInBounds_toArray, List.set_cons_zero, List.set_cons_succ]
                refine wpAnyH_done (by kernel_rfl) ?_ _
                have hB2 := hB.trans (hHeld.mono hsz)
                go_wp2_with fail
                go_ret
                exact ⟨retB HN.out.symm, hB2⟩
            · have HN : Hid (decide (l = m) = false) := Lib.hid (by have := HX.out; rw [if_neg (by simp [d2])] at this; exact this)
              clear HX
              go_wp2_with fail
              refine wp_region_held_drew (S := (fun V => Below wr.heap.size wr V)) (by kernel_rfl) (by exact (Below.refl _ _).drew) (fun hHeld => ?_)
              refine wpAnyH_take (i := 0) (oi := { dst := some 17, op := _, type := _, pos := _, after := _, guard := _ }) (v := ?_) rfl (by kernel_rfl) (by kernel_rfl) (by kernel_rfl) (fun _ _ _ h => h) (Or.inl ⟨by rfl, ?_⟩) hHeld ?_
              rotate_left
              · (intro w hSw; obtain ⟨g0, g1, g2, g3, g4, g5⟩ := HK1.out _ hSw; obtain ⟨h0, h1, h2, h3, h4, h5⟩ := HK0.out _ hSw; go_simp <;> with_reducible rfl)
              try simp only [Act.put, List.setIfInBounds_toArray, List.set_cons_zero, List.set_cons_succ]
              refine wpAnyH_take (i := 1) (oi := { dst := some 18, op := _, type := _, pos := _, after := _, guard := _ }) (v := ?_) rfl (by kernel_rfl) (by kernel_rfl) (by kernel_rfl) (fun _ _ _ h => h) (Or.inl ⟨by rfl, ?_⟩) hHeld ?_
              rotate_left
              · (intro w hSw; obtain ⟨g0, g1, g2, g3, g4, g5⟩ := HK1.out _ hSw; obtain ⟨h0, h1, h2, h3, h4, h5⟩ := HK0.out _ hSw; go_simp <;> with_reducible rfl)
              try simp only [Act.put, List.setIfInBounds_toArray, List.set_cons_zero, List.set_cons_succ]
              refine wpAnyH_take (i := 2) (oi := { dst := some 19, op := _, type := _, pos := _, after := _, guard := _ }) (v := ?_) rfl (by kernel_rfl) (by kernel_rfl) (by kernel_rfl) (fun _ _ _ h => h) (Or.inl ⟨by rfl, ?_⟩) hHeld ?_
              rotate_left
              · (intro w hSw; obtain ⟨g0, g1, g2, g3, g4, g5⟩ := HK1.out _ hSw; obtain ⟨h0, h1, h2, h3, h4, h5⟩ := HK0.out _ hSw; go_simp <;> with_reducible rfl)
              try simp only [Act.put, List.setIfInBounds_toArray, List.set_cons_zero, List.set_cons_succ]
              refine wpAnyH_take (i := 3) (oi := { dst := some 20, op := _, type := _, pos := _, after := _, guard := _ }) (v := ?_) rfl (by kernel_rfl) (by kernel_rfl) (by kernel_rfl) (fun _ _ _ h => h) (Or.inl ⟨by rfl, ?_⟩) hHeld ?_
              rotate_left
              · (intro w hSw; obtain ⟨g0, g1, g2, g3, g4, g5⟩ := HK1.out _ hSw; obtain ⟨h0, h1, h2, h3, h4, h5⟩ := HK0.out _ hSw; go_simp <;> with_reducible rfl)
              try simp only [Act.put, List.setIfInBounds_toArray, List.set_cons_zero, List.set_cons_succ]
              refine wpAnyH_take (i := 4) (oi := { dst := some 21, op := _, type := _, pos := _, after := _, guard := _ }) (v := ?_) rfl (by kernel_rfl) (by kernel_rfl) (by kernel_rfl) (fun _ _ _ h => h) (Or.inl ⟨by rfl, ?_⟩) hHeld ?_
              rotate_left
              · (intro w hSw; obtain ⟨g0, g1, g2, g3, g4, g5⟩ := HK1.out _ hSw; obtain ⟨h0, h1, h2, h3, h4, h5⟩ := HK0.out _ hSw; go_simp <;> with_reducible rfl)
              try simp only [Act.put, List.setIfInBounds_toArray, List.set_cons_zero, List.set_cons_succ]
              refine wpAnyH_take (i := 5) (oi := { dst := some 22, op := _, type := _, pos := _, after := _, guard := _ }) (v := ?_) rfl (by kernel_rfl) (by kernel_rfl) (by kernel_rfl) (fun _ _ _ h => h) (Or.inl ⟨by rfl, ?_⟩) hHeld ?_
              rotate_left
              · (intro w hSw; obtain ⟨g0, g1, g2, g3, g4, g5⟩ := HK1.out _ hSw; obtain ⟨h0, h1, h2, h3, h4, h5⟩ := HK0.out _ hSw; go_simp <;> with_reducible rfl)
              try simp only [Act.put, List.setIfInBounds_toArray, List.set_cons_zero, List.set_cons_succ]
              refine wpAnyH_take (i := 6) (oi := { dst := some 23, op := _, type := _, pos := _, after := _, guard := _ }) (v := ?_) rfl (by kernel_rfl) (by kernel_rfl) (by kernel_rfl) (fun _ _ _ h => h) (Or.inl ⟨by rfl, ?_⟩) hHeld ?_
              rotate_left
              · (intro w hSw; obtain ⟨g0, g1, g2, g3, g4, g5⟩ := HK1.out _ hSw; obtain ⟨h0, h1, h2, h3, h4, h5⟩ := HK0.out _ hSw; go_simp <;> with_reducible rfl)
              try simp only [Act.put, List.setIfInBounds_toArray, List.set_cons_zero, List.set_cons_succ]
              refine wpAnyH_take (i := 7) (oi := { dst := some 24, op := _, type := _, pos := _, after := _, guard := _ }) (v := ?_) rfl (by kernel_rfl) (by kernel_rfl) (by kernel_rfl) (fun _ _ _ h => h) (Or.inl ⟨by rfl, ?_⟩) hHeld ?_
              rotate_left
              · (intro w hSw; obtain ⟨g0, g1, g2, g3, g4, g5⟩ := HK1.out _ hSw; obtain ⟨h0, h1, h2, h3, h4, h5⟩ := HK0.out _ hSw; go_simp <;> with_reducible rfl)
              try simp only [Act.put, List.setIfInBounds_toArray, List.set_cons_zero, List.set_cons_succ]
              refine wpAnyH_take (i := 8) (oi := { dst := some 25, op := _, type := _, pos := _, after := _, guard := _ }) (v := ?_) rfl (by kernel_rfl) (by kernel_rfl) (by kernel_rfl) (fun _ _ _ h => h) (Or.inl ⟨by rfl, ?_⟩) hHeld ?_
              rotate_left
              · (intro w hSw; obtain ⟨g0, g1, g2, g3, g4, g5⟩ := HK1.out _ hSw; obtain ⟨h0, h1, h2, h3, h4, h5⟩ := HK0.out _ hSw; go_simp <;> with_reducible rfl)
              try simp only [Act.put, List.setIfInBounds_toArray, List.set_cons_zero, List.set_cons_succ]
              refine wpAnyH_done (by kernel_rfl) ?_ _
              have hB2 := hB.trans (hHeld.mono hsz)
              go_wp2_with fail
              go_ret
              exact ⟨retB HN.out.symm, hB2⟩
          · have HN : Hid (decide (l = m) = false) := Lib.hid (by have := HX.out; rw [if_neg (by simp [d1])] at this; exact this)
            clear HX
            go_wp2_with fail
            refine wp_region_held_drew (S := (fun V => Below wr.heap.size wr V)) (by kernel_rfl) (by exact (Below.refl _ _).drew) (fun hHeld => ?_)
            refine wpAnyH_take (i := 0) (oi := { dst := some 17, op := _, type := _, pos := _, after := _, guard := _ }) (v := ?_) rfl (by kernel_rfl) (by kernel_rfl) (by kernel_rfl) (fun _ _ _ h => h) (Or.inl ⟨by rfl, ?_⟩) hHeld ?_
            rotate_left
            · (intro w hSw; obtain ⟨g0, g1, g2, g3, g4, g5⟩ := HK1.out _ hSw; obtain ⟨h0, h1, h2, h3, h4, h5⟩ := HK0.out _ hSw; go_simp <;> with_reducible rfl)
            try simp only [Act.put, List.setIfInBounds_toArray, List.set_cons_zero, List.set_cons_succ]
            refine wpAnyH_take (i := 1) (oi := { dst := some 18, op := _, type := _, pos := _, after := _, guard := _ }) (v := ?_) rfl (by kernel_rfl) (by kernel_rfl) (by kernel_rfl) (fun _ _ _ h => h) (Or.inl ⟨by rfl, ?_⟩) hHeld ?_
            rotate_left
            · (intro w hSw; obtain ⟨g0, g1, g2, g3, g4, g5⟩ := HK1.out _ hSw; obtain ⟨h0, h1, h2, h3, h4, h5⟩ := HK0.out _ hSw; go_simp <;> with_reducible rfl)
            try simp only [Act.put, List.setIfInBounds_toArray, List.set_cons_zero, List.set_cons_succ]
            refine wpAnyH_take (i := 2) (oi := { dst := some 19, op := _, type := _, pos := _, after := _, guard := _ }) (v := ?_) rfl (by kernel_rfl) (by kernel_rfl) (by kernel_rfl) (fun _ _ _ h => h) (Or.inl ⟨by rfl, ?_⟩) hHeld ?_
            rotate_left
            · (intro w hSw; obtain ⟨g0, g1, g2, g3, g4, g5⟩ := HK1.out _ hSw; obtain ⟨h0, h1, h2, h3, h4, h5⟩ := HK0.out _ hSw; go_simp <;> with_reducible rfl)
            try simp only [Act.put, List.setIfInBounds_toArray, List.set_cons_zero, List.set_cons_succ]
            refine wpAnyH_take (i := 3) (oi := { dst := some 20, op := _, type := _, pos := _, after := _, guard := _ }) (v := ?_) rfl (by kernel_rfl) (by kernel_rfl) (by kernel_rfl) (fun _ _ _ h => h) (Or.inl ⟨by rfl, ?_⟩) hHeld ?_
            rotate_left
            · (intro w hSw; obtain ⟨g0, g1, g2, g3, g4, g5⟩ := HK1.out _ hSw; obtain ⟨h0, h1, h2, h3, h4, h5⟩ := HK0.out _ hSw; go_simp <;> with_reducible rfl)
            try simp only [Act.put, List.setIfInBounds_toArray, List.set_cons_zero, List.set_cons_succ]
            refine wpAnyH_take (i := 4) (oi := { dst := some 21, op := _, type := _, pos := _, after := _, guard := _ }) (v := ?_) rfl (by kernel_rfl) (by kernel_rfl) (by kernel_rfl) (fun _ _ _ h => h) (Or.inl ⟨by rfl, ?_⟩) hHeld ?_
            rotate_left
            · (intro w hSw; obtain ⟨g0, g1, g2, g3, g4, g5⟩ := HK1.out _ hSw; obtain ⟨h0, h1, h2, h3, h4, h5⟩ := HK0.out _ hSw; go_simp <;> with_reducible rfl)
            try simp only [Act.put, List.setIfInBounds_toArray, List.set_cons_zero, List.set_cons_succ]
            refine wpAnyH_take (i := 5) (oi := { dst := some 22, op := _, type := _, pos := _, after := _, guard := _ }) (v := ?_) rfl (by kernel_rfl) (by kernel_rfl) (by kernel_rfl) (fun _ _ _ h => h) (Or.inl ⟨by rfl, ?_⟩) hHeld ?_
            rotate_left
            · (intro w hSw; obtain ⟨g0, g1, g2, g3, g4, g5⟩ := HK1.out _ hSw; obtain ⟨h0, h1, h2, h3, h4, h5⟩ := HK0.out _ hSw; go_simp <;> with_reducible rfl)
            try simp only [Act.put, List.setIfInBounds_toArray, List.set_cons_zero, List.set_cons_succ]
            refine wpAnyH_take (i := 6) (oi := { dst := some 23, op := _, type := _, pos := _, after := _, guard := _ }) (v := ?_) rfl (by kernel_rfl) (by kernel_rfl) (by kernel_rfl) (fun _ _ _ h => h) (Or.inl ⟨by rfl, ?_⟩) hHeld ?_
            rotate_left
            · (intro w hSw; obtain ⟨g0, g1, g2, g3, g4, g5⟩ := HK1.out _ hSw; obtain ⟨h0, h1, h2, h3, h4, h5⟩ := HK0.out _ hSw; go_simp <;> with_reducible rfl)
            try simp only [Act.put, List.setIfInBounds_toArray, List.set_cons_zero, List.set_cons_succ]
            refine wpAnyH_take (i := 7) (oi := { dst := some 24, op := _, type := _, pos := _, after := _, guard := _ }) (v := ?_) rfl (by kernel_rfl) (by kernel_rfl) (by kernel_rfl) (fun _ _ _ h => h) (Or.inl ⟨by rfl, ?_⟩) hHeld ?_
            rotate_left
            · (intro w hSw; obtain ⟨g0, g1, g2, g3, g4, g5⟩ := HK1.out _ hSw; obtain ⟨h0, h1, h2, h3, h4, h5⟩ := HK0.out _ hSw; go_simp <;> with_reducible rfl)
            try simp only [Act.put, List.setIfInBounds_toArray, List.set_cons_zero, List.set_cons_succ]
            refine wpAnyH_take (i := 8) (oi := { dst := some 25, op := _, type := _, pos := _, after := _, guard := _ }) (v := ?_) rfl (by kernel_rfl) (by kernel_rfl) (by kernel_rfl) (fun _ _ _ h => h) (Or.inl ⟨by rfl, ?_⟩) hHeld ?_
            rotate_left
            · (intro w hSw; obtain ⟨g0, g1, g2, g3, g4, g5⟩ := HK1.out _ hSw; obtain ⟨h0, h1, h2, h3, h4, h5⟩ := HK0.out _ hSw; go_simp <;> with_reducible rfl)
            try simp only [Act.put, List.setIfInBounds_toArray, List.set_cons_zero, List.set_cons_succ]
            refine wpAnyH_done (by kernel_rfl) ?_ _
            have hB2 := hB.trans (hHeld.mono hsz)
            go_wp2_with fail
            go_ret
            exact ⟨retB HN.out.symm, hB2⟩
        · have HN : Hid (decide (l = m) = false) := Lib.hid (by have := HX.out; rw [if_neg (by simp [d0])] at this; exact this)
          clear HX
          go_wp2_with fail
          refine wp_region_held_drew (S := (fun V => Below wr.heap.size wr V)) (by kernel_rfl) (by exact (Below.refl _ _).drew) (fun hHeld => ?_)
          refine wpAnyH_take (i := 0) (oi := { dst := some 17, op := _, type := _, pos := _, after := _, guard := _ }) (v := ?_) rfl (by kernel_rfl) (by kernel_rfl) (by kernel_rfl) (fun _ _ _ h => h) (Or.inl ⟨by rfl, ?_⟩) hHeld ?_
          rotate_left
          · (intro w hSw; obtain ⟨g0, g1, g2, g3, g4, g5⟩ := HK1.out _ hSw; obtain ⟨h0, h1, h2, h3, h4, h5⟩ := HK0.out _ hSw; go_simp <;> with_reducible rfl)
          try simp only [Act.put, List.setIfInBounds_toArray, List.set_cons_zero, List.set_cons_succ]
          refine wpAnyH_take (i := 1) (oi := { dst := some 18, op := _, type := _, pos := _, after := _, guard := _ }) (v := ?_) rfl (by kernel_rfl) (by kernel_rfl) (by kernel_rfl) (fun _ _ _ h => h) (Or.inl ⟨by rfl, ?_⟩) hHeld ?_
          rotate_left
          · (intro w hSw; obtain ⟨g0, g1, g2, g3, g4, g5⟩ := HK1.out _ hSw; obtain ⟨h0, h1, h2, h3, h4, h5⟩ := HK0.out _ hSw; go_simp <;> with_reducible rfl)
          try simp only [Act.put, List.setIfInBounds_toArray, List.set_cons_zero, List.set_cons_succ]
          refine wpAnyH_take (i := 2) (oi := { dst := some 19, op := _, type := _, pos := _, after := _, guard := _ }) (v := ?_) rfl (by kernel_rfl) (by kernel_rfl) (by kernel_rfl) (fun _ _ _ h => h) (Or.inl ⟨by rfl, ?_⟩) hHeld ?_
          rotate_left
          · (intro w hSw; obtain ⟨g0, g1, g2, g3, g4, g5⟩ := HK1.out _ hSw; obtain ⟨h0, h1, h2, h3, h4, h5⟩ := HK0.out _ hSw; go_simp <;> with_reducible rfl)
          try simp only [Act.put, List.setIfInBounds_toArray, List.set_cons_zero, List.set_cons_succ]
          refine wpAnyH_take (i := 3) (oi := { dst := some 20, op := _, type := _, pos := _, after := _, guard := _ }) (v := ?_) rfl (by kernel_rfl) (by kernel_rfl) (by kernel_rfl) (fun _ _ _ h => h) (Or.inl ⟨by rfl, ?_⟩) hHeld ?_
          rotate_left
          · (intro w hSw; obtain ⟨g0, g1, g2, g3, g4, g5⟩ := HK1.out _ hSw; obtain ⟨h0, h1, h2, h3, h4, h5⟩ := HK0.out _ hSw; go_simp <;> with_reducible rfl)
          try simp only [Act.put, List.setIfInBounds_toArray, List.set_cons_zero, List.set_cons_succ]
          refine wpAnyH_take (i := 4) (oi := { dst := some 21, op := _, type := _, pos := _, after := _, guard := _ }) (v := ?_) rfl (by kernel_rfl) (by kernel_rfl) (by kernel_rfl) (fun _ _ _ h => h) (Or.inl ⟨by rfl, ?_⟩) hHeld ?_
          rotate_left
          · (intro w hSw; obtain ⟨g0, g1, g2, g3, g4, g5⟩ := HK1.out _ hSw; obtain ⟨h0, h1, h2, h3, h4, h5⟩ := HK0.out _ hSw; go_simp <;> with_reducible rfl)
          try simp only [Act.put, List.setIfInBounds_toArray, List.set_cons_zero, List.set_cons_succ]
          refine wpAnyH_take (i := 5) (oi := { dst := some 22, op := _, type := _, pos := _, after := _, guard := _ }) (v := ?_) rfl (by kernel_rfl) (by kernel_rfl) (by kernel_rfl) (fun _ _ _ h => h) (Or.inl ⟨by rfl, ?_⟩) hHeld ?_
          rotate_left
          · (intro w hSw; obtain ⟨g0, g1, g2, g3, g4, g5⟩ := HK1.out _ hSw; obtain ⟨h0, h1, h2, h3, h4, h5⟩ := HK0.out _ hSw; go_simp <;> with_reducible rfl)
          try simp only [Act.put, List.setIfInBounds_toArray, List.set_cons_zero, List.set_cons_succ]
          refine wpAnyH_take (i := 6) (oi := { dst := some 23, op := _, type := _, pos := _, after := _, guard := _ }) (v := ?_) rfl (by kernel_rfl) (by kernel_rfl) (by kernel_rfl) (fun _ _ _ h => h) (Or.inl ⟨by rfl, ?_⟩) hHeld ?_
          rotate_left
          · (intro w hSw; obtain ⟨g0, g1, g2, g3, g4, g5⟩ := HK1.out _ hSw; obtain ⟨h0, h1, h2, h3, h4, h5⟩ := HK0.out _ hSw; go_simp <;> with_reducible rfl)
          try simp only [Act.put, List.setIfInBounds_toArray, List.set_cons_zero, List.set_cons_succ]
          refine wpAnyH_take (i := 7) (oi := { dst := some 24, op := _, type := _, pos := _, after := _, guard := _ }) (v := ?_) rfl (by kernel_rfl) (by kernel_rfl) (by kernel_rfl) (fun _ _ _ h => h) (Or.inl ⟨by rfl, ?_⟩) hHeld ?_
          rotate_left
          · (intro w hSw; obtain ⟨g0, g1, g2, g3, g4, g5⟩ := HK1.out _ hSw; obtain ⟨h0, h1, h2, h3, h4, h5⟩ := HK0.out _ hSw; go_simp <;> with_reducible rfl)
          try simp only [Act.put, List.setIfInBounds_toArray, List.set_cons_zero, List.set_cons_succ]
          refine wpAnyH_take (i := 8) (oi := { dst := some 25, op := _, type := _, pos := _, after := _, guard := _ }) (v := ?_) rfl (by kernel_rfl) (by kernel_rfl) (by kernel_rfl) (fun _ _ _ h => h) (Or.inl ⟨by rfl, ?_⟩) hHeld ?_
          rotate_left
          · (intro w hSw; obtain ⟨g0, g1, g2, g3, g4, g5⟩ := HK1.out _ hSw; obtain ⟨h0, h1, h2, h3, h4, h5⟩ := HK0.out _ hSw; go_simp <;> with_reducible rfl)
          try simp only [Act.put, List.setIfInBounds_toArray, List.set_cons_zero, List.set_cons_succ]
          refine wpAnyH_done (by kernel_rfl) ?_ _
          have hB2 := hB.trans (hHeld.mono hsz)
          go_wp2_with fail
          go_ret
          exact ⟨retB HN.out.symm, hB2⟩
      · have HE := Lib.hid (show decide (l = m) = true from decide_eq_true (list_eq_of HLM.out fun j h1 h2 => hno j h1 h2 (by omega)))
        clear hno
        go_wp2_with fail
        go_ret
        exact ⟨retB HE.out.symm, hB⟩
  · have HE := Lib.hid (show decide (l = m) = false from decide_eq_false fun e => hlen (by rw [e]))
    have hlen2 : ¬ ((l.length : Int) = (m.length : Int)) := by omega
    have hlen3 : ((l.length : Int) != (m.length : Int)) = true := by simpa using hlen2
    clear hlen
    go_enter Try.func77, Try.ntmps77
    go_wp2_with fail
    go_ret
    exact ⟨retB HE.out.symm, Below.refl _ _⟩

theorem gsame_any_self (A A2 : Option Addr) (cap cap2 : Nat) (l : List Gr) (w : World) (hl : l.length ≤ 1000000) (hs : Sl w A (rc Gr.cells l)) (hs2 : Sl w A2 (rc Gr.cells l)) :
    Calls Try.prog 77 #[.slice A l.length cap, .slice A2 l.length cap2] w fun e w' => e = .returned (.bool true) ∧ Below w.heap.size w w' :=
  (gsame_any A A2 cap cap2 l l w hl hs hs2).mono fun _ _ ⟨he, hw⟩ => ⟨by rw [he, decide_eq_true rfl], hw⟩

def SetRel (m : List Gr) (kk : Nat) (W1 : World) (out done i : Value) (wr : World) : Prop :=
  ∃ (k : Nat) (A' : Option Addr) (c' : Nat), k ≤ m.length ∧ i = .int .i64 k ∧ done = .bool (decide (kk < k)) ∧ out = .slice A' k c' ∧ wr.ownsRow W1.heap.size 102 6 (.slice A' k c') k (rc Gr.cells (m.take k)) ∧ Below W1.heap.size W1 wr
set_option maxHeartbeats 8000000 in
set_option maxRecDepth 100000 in
theorem rgset_any (A : Option Addr) (cap : Nat) (l : List Gr) (id n : Int) (W1 : World) (hl : l.length ≤ 900000) (hh : hasG l id = true) (hs1 : Sl W1 A (rc Gr.cells l)) :
    Calls Try.prog 133 #[.slice A l.length cap, .int .i64 id, .int .i64 n] W1 fun e w' => (∃ A' c', e = .returned (.slice A' l.length c') ∧ w'.ownsRow W1.heap.size 102 6 (.slice A' l.length c') l.length (rc Gr.cells (setG l id n))) ∧ Below W1.heap.size W1 w' := by
  rcases casesG l id with ⟨h0, _⟩ | ⟨kk, hkk, _, hat, hf, hid, hbefore⟩
  · rw [h0] at hh; cases hh
  obtain ⟨m, hm⟩ : ∃ m, setG l id n = m := ⟨_, rfl⟩
  have hm2 : l.set kk (leftG l[kk] n) = m := by rw [← hm, setG, hat, hf]; rfl
  have hml : m.length = l.length := by rw [← hm]; exact setG_length _ _ _
  have HSN : Hid (∀ k (hk : k < l.length), m.take (k + 1) = m.take k ++ [if kk = k then leftG l[k] n else l[k]]) := Lib.hid fun k hk => by
    rw [take_snoc m k (by omega)]
    congr 2
    subst hm2
    rw [List.getElem_set]
    by_cases e : kk = k
    · subst e; simp
    · rw [if_neg e, if_neg e]
  have HID : Hid (l[kk].id = id ∧ ∀ j, (hj : j < kk) → (l[j]'(Nat.lt_trans hj hkk)).id ≠ id) := Lib.hid ⟨by simpa [idG] using hid, fun j hj => by have := hbefore j hj; simpa [idG] using this⟩
  rw [hm]
  have HML := Lib.hid hml
  have hml9 : m.length ≤ 900000 := by omega
  have hm64 : m.length ≤ 1000000 := by omega
  clear hh hat hf hid hbefore hm hm2 hml
  go_enter Try.func133, Try.ntmps133
  go_wp2_with fail
  go_loopw [7, 8, 9] (fun out done i wr => SetRel m kk W1 out done i wr) (fun _ _ i _ => l.length - (intOf i).toNat)
  case atStart => exact ⟨0, none, 0, by omega, rfl, rfl, rfl, own_nil _ _ _, Below.refl _ _⟩
  case round =>
    obtain ⟨k, A', c', hk, rfl, rfl, rfl, hout, hB⟩ := hrel
    have hsz : W1.heap.size ≤ wr.heap.size := hB.size
    have hk' : k ≤ l.length := by rw [← HML.out]; exact hk
    by_cases hlt : k < l.length
    · obtain ⟨b, o, rfl, hbw, hg⟩ := (hs1.below hB).gr hlt
      have hlk : (k : Int) < (l.length : Int) := by omega
      have hmk : k + 1 ≤ m.length := by rw [HML.out]; omega
      have hS := HSN.out k hlt
      have hcase : (k < kk ∧ l[k].id ≠ id) ∨ (k = kk ∧ l[k].id = id) ∨ (kk < k) := by
        rcases Nat.lt_trichotomy k kk with h | h | h
        · exact .inl ⟨h, HID.out.2 k h⟩
        · subst h; exact .inr (.inl ⟨rfl, HID.out.1⟩)
        · exact .inr (.inr h)
      clear hs1 hbw HSN
      generalize l[k] = v at hg hS hcase
      obtain ⟨vid, vac, vcl, vins, vpr, x⟩ := v
      obtain ⟨g0, g1, g2, g3, g4, g5⟩ := hg
      simp only at g0 g1 g2 g3 g4 g5 hcase hS
      rcases hcase with ⟨h1, h2⟩ | ⟨rfl, rfl⟩ | h1
      · have HE : Hid (m.take (k + 1) = m.take k ++ [⟨vid, vac, vcl, vins, vpr, x⟩]) := Lib.hid (by rw [hS, if_neg (by omega)])
        have hd1 : decide (kk < k) = false := by simp; omega
        have hd2 : decide (kk < k + 1) = false := by simp; omega
        have h2b : (vid == id) = false := by simpa using h2
        have HD2 := Lib.hid hd2
        clear hS h2 hd2
        rw [hd1]
        clear hd1
        generalize m.take k = q at hout HE
        go_wp2_with (first
          | (at_builtin; refine wpList_app rfl (.tmp 31) (.tmp 33) rfl EGr rfl rfl ((hout.alloc _).alloc _) (m := 1) (news := (⟨vid, vac, vcl, vins, vpr, x⟩ : Gr).cells) rfl (Sl.new1 wr _ _ _) (Gr.one _) (by unfold maxLen; omega) (by omega) (by simp only [World.size_alloc]; omega) ?_; intro A2 c2 w3 hown2 hg2 hb2)
          | fail)
        go_roundw
        case rel =>
          refine ⟨k + 1, A2, c2, hmk, by go_num, by rw [HD2.out], rfl, ?_, ?_⟩
          · rw [HE.out, rc_append]
            simpa [rc] using hown2
          · exact ((hB.alloc hsz _).alloc (by simp only [World.size_alloc]; omega) _).trans hb2
        case measure => simp [intOf]; omega

      · have HE : Hid (m.take (k + 1) = m.take k ++ [⟨vid, vac, vcl, vins, vpr, n⟩]) := Lib.hid (by rw [hS, if_pos rfl]; rfl)
        have hd1 : decide (k < k) = false := by simp
        have HD2 : Hid (decide (k < k + 1) = true) := Lib.hid (by simp)
        clear hS
        rw [hd1]
        clear hd1
        generalize m.take k = q at hout HE
        go_wp2_with (first
          | (at_builtin; refine wpList_app rfl (.tmp 31) (.tmp 33) rfl EGr rfl rfl ((hout.alloc _).alloc _) (m := 1) (news := (⟨vid, vac, vcl, vins, vpr, n⟩ : Gr).cells) rfl (Sl.new1 wr _ _ _) (Gr.one _) (by unfold maxLen; omega) (by omega) (by simp only [World.size_alloc]; omega) ?_; intro A2 c2 w3 hown2 hg2 hb2)
          | fail)
        go_roundw
        case rel =>
          refine ⟨k + 1, A2, c2, hmk, by go_num, by rw [HD2.out], rfl, ?_, ?_⟩
          · rw [HE.out, rc_append]
            simpa [rc] using hown2
          · exact ((hB.alloc hsz _).alloc (by simp only [World.size_alloc]; omega) _).trans hb2
        case measure => simp [intOf]; omega

      · have HE : Hid (m.take (k + 1) = m.take k ++ [⟨vid, vac, vcl, vins, vpr, x⟩]) := Lib.hid (by rw [hS, if_neg (by omega)])
        have hd1 : decide (kk < k) = true := by simp; omega
        have hd2 : decide (kk < k + 1) = true := by simp; omega
        have HD2 := Lib.hid hd2
        clear hS hd2
        rw [hd1]
        clear hd1
        generalize m.take k = q at hout HE
        cases h2b : (vid == id)
        all_goals
          go_wp2_with (first
            | (at_builtin; refine wpList_app rfl (.tmp 31) (.tmp 33) rfl EGr rfl rfl ((hout.alloc _).alloc _) (m := 1) (news := (⟨vid, vac, vcl, vins, vpr, x⟩ : Gr).cells) rfl (Sl.new1 wr _ _ _) (Gr.one _) (by unfold maxLen; omega) (by omega) (by simp only [World.size_alloc]; omega) ?_; intro A2 c2 w3 hown2 hg2 hb2)
            | fail)
          go_roundw
          case rel =>
            refine ⟨k + 1, A2, c2, hmk, by go_num, by rw [HD2.out], rfl, ?_, ?_⟩
            · rw [HE.out, rc_append]
              simpa [rc] using hown2
            · exact ((hB.alloc hsz _).alloc (by simp only [World.size_alloc]; omega) _).trans hb2
          case measure => simp [intOf]; omega

    · have hkl : k = m.length := by rw [HML.out]; omega
      subst hkl
      rw [List.take_length] at hout
      have hge : ¬ ((m.length : Int) < (l.length : Int)) := by rw [HML.out]; omega
      have hll := HML.out
      clear hs1
      go_wp2_with fail
      go_ret
      rw [← hll]
      exact ⟨⟨A', c', rfl, hout⟩, hB⟩

set_option maxHeartbeats 4000000 in
set_option maxRecDepth 100000 in
theorem rgopen_any (A : Option Addr) (cap : Nat) (l : List Gr) (v : Gr) (w : World) (hl : l.length ≤ 900000) (hs : Sl w A (rc Gr.cells l)) :
    Calls Try.prog 70 #[.slice A l.length cap, v.val] w fun e w' => ORes w.heap.size w' e (openR l v) ∧ Below w.heap.size w w' := by
  have hB0 := since_alloc (Below.refl _ w) (.cells v.cells.toArray 102)
  have hV0 := Gr.Bx.new w v
  obtain ⟨g0, g1, g2, g3, g4, g5⟩ := hV0.got
  by_cases hz : v.left = 0 ∨ inQ v.left = false
  · have HR : Hid (openR l v = (2, 0, [])) := Lib.hid (by rw [openR, if_pos hz])
    have hw : (v.left = 0) ∨ (v.left ≠ 0 ∧ v.left < -1099511627776) ∨ (v.left ≠ 0 ∧ ¬ v.left < -1099511627776 ∧ 1099511627776 < v.left) := by
      rcases hz with h | h
      · exact .inl h
      · unfold inQ at h; simp at h; omega
    clear hz
    rcases hw with h0 | ⟨h0, h1⟩ | ⟨h0, h1, h2⟩
    · have h0b : (v.left == 0) = true := by simpa using h0
      clear h0
      unfold Gr.val
      go_enter Try.func70, Try.ntmps70
      go_wp2_with fail
      go_ret3
      rw [HR.out]; exact ⟨ORes.nil _ _ _, hB0⟩

    · have h0b : (v.left == 0) = false := by simpa using h0
      clear h0
      unfold Gr.val
      go_enter Try.func70, Try.ntmps70
      go_wp2_with fail
      go_ret3
      rw [HR.out]; exact ⟨ORes.nil _ _ _, hB0⟩

    · have h0b : (v.left == 0) = false := by simpa using h0
      clear h0
      unfold Gr.val
      go_enter Try.func70, Try.ntmps70
      go_wp2_with fail
      go_ret3
      rw [HR.out]; exact ⟨ORes.nil _ _ _, hB0⟩

  · have h0b : (v.left == 0) = false := by simp; intro h; exact hz (.inl h)
    have hq : inQ v.left = true := by cases h : inQ v.left; exact absurd (.inr h) hz; rfl
    have hq1 : ¬ v.left < -1099511627776 := by unfold inQ at hq; simp at hq; omega
    have hq2 : ¬ 1099511627776 < v.left := by unfold inQ at hq; simp at hq; omega
    by_cases h64 : 64 ≤ l.length
    · have HR : Hid (openR l v = (25, 0, [])) := Lib.hid (by rw [openR, if_neg hz, if_pos h64])
      have h64i : (63 : Int) < (l.length : Int) := by omega
      clear hq hz
      unfold Gr.val
      go_enter Try.func70, Try.ntmps70
      go_wp2_with fail
      go_ret3
      rw [HR.out]; exact ⟨ORes.nil _ _ _, hB0⟩

    · obtain ⟨nx, hnx⟩ : ∃ n, nextG l = n := ⟨_, rfl⟩
      have HR : Hid (openR l v = (0, nx, l ++ [numG v nx])) := Lib.hid (by rw [openR, if_neg hz, if_neg h64, hnx])
      have h64i : ¬ (63 : Int) < (l.length : Int) := by omega
      have hll : l.length < 64 := by omega
      have hB2 := since_alloc (Below.refl _ w) (.cells (numG v nx).cells.toArray 102)
      have hV2 := Gr.Bx.new w (numG v nx)
      have hs2 := hs.alloc (.cells (numG v nx).cells.toArray 102)
      clear hz hq
      by_cases hz : 0 < l.length
      · obtain ⟨b, o, rfl, hbw, hg⟩ := hs.gr (k := l.length - 1) (by omega)
        have hg0 : (w.alloc (.cells v.cells.toArray 102)).cell? ⟨b, o + (l.length - 1) * 6, none⟩ = some (.int .i64 (l[l.length - 1]'(by omega)).id) := (hB0.cell (p := ⟨b, _, none⟩) hbw).trans hg.1
        have hnw : IntKind.i64.wrap ((l[l.length - 1]'(by omega)).id + 1) = nx := by rw [← hnx, nextG, dif_pos hz]
        have hzi : (0 : Int) < (l.length : Int) := by omega
        have hz1 : IntKind.i64.wrap ((l.length : Int) - 1) = (l.length : Int) - 1 := IntWalk.i64_in _ (by omega)
        have hz2 : (0 : Int) ≤ (l.length : Int) - 1 := by omega
        have hz3 : ((l.length : Int) - 1).toNat = l.length - 1 := by omega
        have hz4 : (l.length : Int) - 1 < (l.length : Int) := by omega
        have hne : b ≠ w.heap.size := by omega
        have hne' : ¬ w.heap.size = b := by omega
        have hgw := hg.1
        clear hs hg hnx
        generalize (l[l.length - 1]'(by omega)).id = li at hg0 hnw hgw
        unfold Gr.val Gr.cells numG at *
        go_enter Try.func70, Try.ntmps70
        go_upto_region 8 with fail
        try simp only at hB2 hV2 hs2
        generalize hWW : w.alloc (.cells #[.int .i64 nx, .int .i64 v.ac, .int .i64 v.cl, .int .i64 v.ins, .int .i64 v.pr, .int .i64 v.left] 102) = W at *
        clear hWW hg0 hgw g0 g1 g2 g3 g4 g5 hV0 hB0
        obtain ⟨x, hx⟩ : ∃ x, (⟨nx, v.ac, v.cl, v.ins, v.pr, v.left⟩ : Gr) = x := ⟨_, rfl⟩
        rw [hx] at hV2
        have HXX := Lib.hid hx
        have HNX : Hid (x.id = nx) := Lib.hid (by rw [← hx])
        clear hx
        go_wp2_with (first
          | (at_builtin; refine wpList_app rfl (.tmp 37) (.tmp 38) rfl EGr rfl rfl (own_nil W.heap.size _ _) (m := l.length) (news := rc Gr.cells l) (rc_length Gr.len _) hs2 (rc_one Gr.one _) (by unfold maxLen; omega) (by omega) (Nat.le_refl _) ?_; intro A1 c1 W2 hown0 hg1 hb1; simp only [Nat.zero_add, List.nil_append] at hown0)
          | fail)
        have hBW2 := hB2.trans (hb1.mono hB2.size)
        have hV3 := hV2.below hb1
        have hV2l := hV2.lt
        have HXB : Hid (∀ V, Below W.heap.size W2 V → Gr.Bx V w.heap.size x) := Lib.hid fun V hV => hV3.farB hV hV2l
        have hW2b : W.heap.size ≤ W2.heap.size := hb1.size
        have hWb := hB2.size
        have hW2s : w.heap.size ≤ W2.heap.size := hBW2.size
        clear hV2 hs2 hV3
        go_wp2_with fail
        refine wp_region_held_drew (S := (fun V => Below W.heap.size W2 V)) (by kernel_rfl) (by exact (Below.refl _ _).drew) (fun hHeld => ?_)
        refine wpAnyH_take (i := 0) (oi := { dst := some 40, op := _, type := _, pos := _, after := _, guard := _ }) (v := ?_) rfl (by kernel_rfl) (by kernel_rfl) (by kernel_rfl) (fun _ _ _ h => h) (Or.inl ⟨by rfl, ?_⟩) hHeld ?_
        rotate_left
        · (intro w hSw; obtain ⟨g0, g1, g2, g3, g4, g5⟩ := (HXB.out _ hSw).got; go_simp <;> with_reducible rfl)
        try simp only [Act.put, List.setIfInBounds_toArray, List.set_cons_zero, List.set_cons_succ]
        refine wpAnyH_take (i := 1) (oi := { dst := some 41, op := _, type := _, pos := _, after := _, guard := _ }) (v := ?_) rfl (by kernel_rfl) (by kernel_rfl) (by kernel_rfl) (fun _ _ _ h => h) (Or.inl ⟨by rfl, ?_⟩) hHeld ?_
        rotate_left
        · (intro w hSw; obtain ⟨g0, g1, g2, g3, g4, g5⟩ := (HXB.out _ hSw).got; go_simp <;> with_reducible rfl)
        try simp only [Act.put, List.setIfInBounds_toArray, List.set_cons_zero, List.set_cons_succ]
        refine wpAnyH_take (i := 4) (oi := { dst := some 44, op := _, type := _, pos := _, after := _, guard := _ }) (v := ?_) rfl (by kernel_rfl) (by kernel_rfl) (by kernel_rfl) (fun _ _ _ h => h) (Or.inl ⟨by rfl, ?_⟩) hHeld ?_
        rotate_left
        · (intro w hSw; obtain ⟨g0, g1, g2, g3, g4, g5⟩ := (HXB.out _ hSw).got; go_simp <;> with_reducible rfl)
        try simp only [Act.put, List.setIfInBounds_toArray, List.set_cons_zero, List.set_cons_succ]
        refine wpAnyH_take (i := 5) (oi := { dst := some 45, op := _, type := _, pos := _, after := _, guard := _ }) (v := ?_) rfl (by kernel_rfl) (by kernel_rfl) (by kernel_rfl) (fun _ _ _ h => h) (Or.inl ⟨by rfl, ?_⟩) hHeld ?_
        rotate_left
        · (intro w hSw; obtain ⟨g0, g1, g2, g3, g4, g5⟩ := (HXB.out _ hSw).got; go_simp <;> with_reducible rfl)
        try simp only [Act.put, List.setIfInBounds_toArray, List.set_cons_zero, List.set_cons_succ]
        refine wpAnyH_ready (rs := [2]) (by kernel_rfl) (by simp) ?_
        refine AllReadyH.cons (o := { dst := some 42, op := _, type := _, pos := _, after := _, guard := _ }) rfl (fun K hK => ?_) AllReadyH.nil
        have hHd := hHeld
        obtain ⟨g0, g1, g2, g3, g4, g5⟩ := (HXB.out _ hHd).got
        have hA := Below.alloc hHeld (Nat.le_trans hW2b (Nat.le_refl _)) (.cells x.cells.toArray 102)
        have hKeep := hA
        have HV := Gr.Bx.new W2.drew x
        have hown1 := World.ownsRow.alloc (w := W2.drew) hown0 (.cells x.cells.toArray 102)
        skip
        go_simp
        refine hK.out _ _ (by (try dsimp only); exact hKeep) (fun hHeld => ?_)
        clear hK K hKeep
        try simp only [Act.put, List.setIfInBounds_toArray, List.set_cons_zero, List.set_cons_succ]
        refine wpAnyH_ready (rs := [3]) (by kernel_rfl) (by simp) ?_
        refine AllReadyH.cons (o := { dst := some 43, op := _, type := _, pos := _, after := _, guard := _ }) rfl (fun K hK => ?_) AllReadyH.nil
        refine step_app rfl (.tmp 40) (.tmp 42) rfl EGr (n := l.length) (m := 1) (c := c1) (d := 1) (A := A1) (B := some ⟨W2.drew.heap.size, 0, none⟩) (by simp [Act.eval, Act.put]; done) (by simp [Act.eval, Act.put]; done) hown1 (by rw [Gr.len]) HV.sl (Gr.one x) (by unfold maxLen; omega) (by omega) (Nat.le_trans hW2b hHeld.size) ?_
        intro A2 c2 u2 hown2 hg2 hb2
        have hKeep := hHeld.trans hb2
        refine hK.out _ _ (by (try dsimp only); exact hKeep) (fun hHeld => ?_)
        clear hK K hKeep
        try simp only [Act.put, List.setIfInBounds_toArray, List.set_cons_zero, List.set_cons_succ]
        refine wpAnyH_take (i := 6) (oi := { dst := some 4, op := _, type := _, pos := _, after := _, guard := _ }) (v := ?_) rfl (by kernel_rfl) (by kernel_rfl) (by kernel_rfl) (fun _ _ _ h => h) (Or.inl ⟨by rfl, ?_⟩) hHeld ?_
        rotate_left
        · (intro w hSw; obtain ⟨g0, g1, g2, g3, g4, g5⟩ := (HXB.out _ hSw).got; go_simp <;> with_reducible rfl)
        try simp only [Act.put, List.setIfInBounds_toArray, List.set_cons_zero, List.set_cons_succ]
        refine wpAnyH_take (i := 7) (oi := { dst := some 5, op := _, type := _, pos := _, after := _, guard := _ }) (v := ?_) rfl (by kernel_rfl) (by kernel_rfl) (by kernel_rfl) (fun _ _ _ h => h) (Or.inl ⟨by rfl, ?_⟩) hHeld ?_
        rotate_left
        · (intro w hSw; obtain ⟨g0, g1, g2, g3, g4, g5⟩ := (HXB.out _ hSw).got; go_simp <;> with_reducible rfl)
        try simp only [Act.put, List.setIfInBounds_toArray, List.set_cons_zero, List.set_cons_succ]
        refine wpAnyH_take (i := 8) (oi := { dst := some 6, op := _, type := _, pos := _, after := _, guard := _ }) (v := ?_) rfl (by kernel_rfl) (by kernel_rfl) (by kernel_rfl) (fun _ _ _ h => h) (Or.inl ⟨by rfl, ?_⟩) hHeld ?_
        rotate_left
        · (intro w hSw; obtain ⟨g0, g1, g2, g3, g4, g5⟩ := (HXB.out _ hSw).got; go_simp <;> with_reducible rfl)
        try simp only [Act.put, List.setIfInBounds_toArray, List.set_cons_zero, List.set_cons_succ]
        refine wpAnyH_done (by kernel_rfl) ?_ _
        have hB3 := hBW2.trans (hHeld.mono hWb)
        go_wp2_with fail
        go_ret3
        refine ⟨?_, hB3⟩
        rw [HR.out]
        refine ⟨A2, c2, ?_, ?_⟩
        · rw [List.length_append, HNX.out]; rfl
        · rw [List.length_append, rc_append]
          have := own_base hown2 hWb
          rw [HXX.out]
          simpa [rc] using this
      · have hnx1 : nx = 1 := by rw [← hnx, nextG, dif_neg hz]
        have hzi : ¬ (0 : Int) < (l.length : Int) := by omega
        subst hnx1
        clear hs
        unfold Gr.val Gr.cells numG at *
        go_enter Try.func70, Try.ntmps70
        go_upto_region 8 with fail
        try simp only at hB2 hV2 hs2
        generalize hWW : w.alloc (.cells #[.int .i64 1, .int .i64 v.ac, .int .i64 v.cl, .int .i64 v.ins, .int .i64 v.pr, .int .i64 v.left] 102) = W at *
        clear hWW g0 g1 g2 g3 g4 g5 hV0 hB0
        obtain ⟨x, hx⟩ : ∃ x, (⟨1, v.ac, v.cl, v.ins, v.pr, v.left⟩ : Gr) = x := ⟨_, rfl⟩
        rw [hx] at hV2
        have HXX := Lib.hid hx
        have HNX : Hid (x.id = 1) := Lib.hid (by rw [← hx])
        clear hx
        go_wp2_with (first
          | (at_builtin; refine wpList_app rfl (.tmp 37) (.tmp 38) rfl EGr rfl rfl (own_nil W.heap.size _ _) (m := l.length) (news := rc Gr.cells l) (rc_length Gr.len _) hs2 (rc_one Gr.one _) (by unfold maxLen; omega) (by omega) (Nat.le_refl _) ?_; intro A1 c1 W2 hown0 hg1 hb1; simp only [Nat.zero_add, List.nil_append] at hown0)
          | fail)
        have hBW2 := hB2.trans (hb1.mono hB2.size)
        have hV3 := hV2.below hb1
        have hV2l := hV2.lt
        have HXB : Hid (∀ V, Below W.heap.size W2 V → Gr.Bx V w.heap.size x) := Lib.hid fun V hV => hV3.farB hV hV2l
        have hW2b : W.heap.size ≤ W2.heap.size := hb1.size
        have hWb := hB2.size
        have hW2s : w.heap.size ≤ W2.heap.size := hBW2.size
        clear hV2 hs2 hV3
        go_wp2_with fail
        refine wp_region_held_drew (S := (fun V => Below W.heap.size W2 V)) (by kernel_rfl) (by exact (Below.refl _ _).drew) (fun hHeld => ?_)
        refine wpAnyH_take (i := 0) (oi := { dst := some 40, op := _, type := _, pos := _, after := _, guard := _ }) (v := ?_) rfl (by kernel_rfl) (by kernel_rfl) (by kernel_rfl) (fun _ _ _ h => h) (Or.inl ⟨by rfl, ?_⟩) hHeld ?_
        rotate_left
        · (intro w hSw; obtain ⟨g0, g1, g2, g3, g4, g5⟩ := (HXB.out _ hSw).got; go_simp <;> with_reducible rfl)
        try simp only [Act.put, List.setIfInBounds_toArray, List.set_cons_zero, List.set_cons_succ]
        refine wpAnyH_take (i := 1) (oi := { dst := some 41, op := _, type := _, pos := _, after := _, guard := _ }) (v := ?_) rfl (by kernel_rfl) (by kernel_rfl) (by kernel_rfl) (fun _ _ _ h => h) (Or.inl ⟨by rfl, ?_⟩) hHeld ?_
        rotate_left
        · (intro w hSw; obtain ⟨g0, g1, g2, g3, g4, g5⟩ := (HXB.out _ hSw).got; go_simp <;> with_reducible rfl)
        try simp only [Act.put, List.setIfInBounds_toArray, List.set_cons_zero, List.set_cons_succ]
        refine wpAnyH_take (i := 4) (oi := { dst := some 44, op := _, type := _, pos := _, after := _, guard := _ }) (v := ?_) rfl (by kernel_rfl) (by kernel_rfl) (by kernel_rfl) (fun _ _ _ h => h) (Or.inl ⟨by rfl, ?_⟩) hHeld ?_
        rotate_left
        · (intro w hSw; obtain ⟨g0, g1, g2, g3, g4, g5⟩ := (HXB.out _ hSw).got; go_simp <;> with_reducible rfl)
        try simp only [Act.put, List.setIfInBounds_toArray, List.set_cons_zero, List.set_cons_succ]
        refine wpAnyH_take (i := 5) (oi := { dst := some 45, op := _, type := _, pos := _, after := _, guard := _ }) (v := ?_) rfl (by kernel_rfl) (by kernel_rfl) (by kernel_rfl) (fun _ _ _ h => h) (Or.inl ⟨by rfl, ?_⟩) hHeld ?_
        rotate_left
        · (intro w hSw; obtain ⟨g0, g1, g2, g3, g4, g5⟩ := (HXB.out _ hSw).got; go_simp <;> with_reducible rfl)
        try simp only [Act.put, List.setIfInBounds_toArray, List.set_cons_zero, List.set_cons_succ]
        refine wpAnyH_ready (rs := [2]) (by kernel_rfl) (by simp) ?_
        refine AllReadyH.cons (o := { dst := some 42, op := _, type := _, pos := _, after := _, guard := _ }) rfl (fun K hK => ?_) AllReadyH.nil
        have hHd := hHeld
        obtain ⟨g0, g1, g2, g3, g4, g5⟩ := (HXB.out _ hHd).got
        have hA := Below.alloc hHeld (Nat.le_trans hW2b (Nat.le_refl _)) (.cells x.cells.toArray 102)
        have hKeep := hA
        have HV := Gr.Bx.new W2.drew x
        have hown1 := World.ownsRow.alloc (w := W2.drew) hown0 (.cells x.cells.toArray 102)
        skip
        go_simp
        refine hK.out _ _ (by (try dsimp only); exact hKeep) (fun hHeld => ?_)
        clear hK K hKeep
        try simp only [Act.put, List.setIfInBounds_toArray, List.set_cons_zero, List.set_cons_succ]
        refine wpAnyH_ready (rs := [3]) (by kernel_rfl) (by simp) ?_
        refine AllReadyH.cons (o := { dst := some 43, op := _, type := _, pos := _, after := _, guard := _ }) rfl (fun K hK => ?_) AllReadyH.nil
        refine step_app rfl (.tmp 40) (.tmp 42) rfl EGr (n := l.length) (m := 1) (c := c1) (d := 1) (A := A1) (B := some ⟨W2.drew.heap.size, 0, none⟩) (by simp [Act.eval, Act.put]; done) (by simp [Act.eval, Act.put]; done) hown1 (by rw [Gr.len]) HV.sl (Gr.one x) (by unfold maxLen; omega) (by omega) (Nat.le_trans hW2b hHeld.size) ?_
        intro A2 c2 u2 hown2 hg2 hb2
        have hKeep := hHeld.trans hb2
        refine hK.out _ _ (by (try dsimp only); exact hKeep) (fun hHeld => ?_)
        clear hK K hKeep
        try simp only [Act.put, List.setIfInBounds_toArray, List.set_cons_zero, List.set_cons_succ]
        refine wpAnyH_take (i := 6) (oi := { dst := some 4, op := _, type := _, pos := _, after := _, guard := _ }) (v := ?_) rfl (by kernel_rfl) (by kernel_rfl) (by kernel_rfl) (fun _ _ _ h => h) (Or.inl ⟨by rfl, ?_⟩) hHeld ?_
        rotate_left
        · (intro w hSw; obtain ⟨g0, g1, g2, g3, g4, g5⟩ := (HXB.out _ hSw).got; go_simp <;> with_reducible rfl)
        try simp only [Act.put, List.setIfInBounds_toArray, List.set_cons_zero, List.set_cons_succ]
        refine wpAnyH_take (i := 7) (oi := { dst := some 5, op := _, type := _, pos := _, after := _, guard := _ }) (v := ?_) rfl (by kernel_rfl) (by kernel_rfl) (by kernel_rfl) (fun _ _ _ h => h) (Or.inl ⟨by rfl, ?_⟩) hHeld ?_
        rotate_left
        · (intro w hSw; obtain ⟨g0, g1, g2, g3, g4, g5⟩ := (HXB.out _ hSw).got; go_simp <;> with_reducible rfl)
        try simp only [Act.put, List.setIfInBounds_toArray, List.set_cons_zero, List.set_cons_succ]
        refine wpAnyH_take (i := 8) (oi := { dst := some 6, op := _, type := _, pos := _, after := _, guard := _ }) (v := ?_) rfl (by kernel_rfl) (by kernel_rfl) (by kernel_rfl) (fun _ _ _ h => h) (Or.inl ⟨by rfl, ?_⟩) hHeld ?_
        rotate_left
        · (intro w hSw; obtain ⟨g0, g1, g2, g3, g4, g5⟩ := (HXB.out _ hSw).got; go_simp <;> with_reducible rfl)
        try simp only [Act.put, List.setIfInBounds_toArray, List.set_cons_zero, List.set_cons_succ]
        refine wpAnyH_done (by kernel_rfl) ?_ _
        have hB3 := hBW2.trans (hHeld.mono hWb)
        go_wp2_with fail
        go_ret3
        refine ⟨?_, hB3⟩
        rw [HR.out]
        refine ⟨A2, c2, ?_, ?_⟩
        · rw [List.length_append, HNX.out]; rfl
        · rw [List.length_append, rc_append]
          have := own_base hown2 hWb
          rw [HXX.out]
          simpa [rc] using this

set_option maxHeartbeats 8000000 in
set_option maxRecDepth 100000 in
theorem rgalloc_any (A : Option Addr) (cap : Nat) (l : List Gr) (id q : Int) (hq : In64 q) (w : World) (hl : l.length ≤ 900000) (hx : ∀ g ∈ l, In64 g.left) (hs : Sl w A (rc Gr.cells l)) :
    Calls Try.prog 72 #[.slice A l.length cap, .int .i64 id, .int .i64 q] w fun e w' => GRes w.heap.size w' e (allocR l id q) ∧ Below w.heap.size w w' := by
  have HFD := Lib.hid (fun W h => rgfind_any A cap l id W (by omega) h)
  have HSET := Lib.hid (fun n hh W h => rgset_any A cap l id n W hl hh h)
  rcases casesG l id with ⟨hh, hat, hfz, _⟩ | ⟨k, hk, hh, hat, hf, _⟩
  · have HR : Hid (allocR l id q = (11, [])) := Lib.hid (by rw [allocR, if_neg (by rw [hh]; decide)])
    have HH := Lib.hid hh
    rw [hfz] at HFD
    unfold Gr.zero at HFD
    have hBf := fun (W : World) (h : Below w.heap.size w W) => since_alloc h (.cells #[.int .i64 0, .int .i64 0, .int .i64 0, .int .i64 0, .int .i64 0, .int .i64 0] 102)
    clear hh hat hfz
    unfold Gr.val at *
    go_enter Try.func72, Try.ntmps72
    go_wp2_with fail
    refine (HFD.out _ hs).mono ?_
    rintro e w2 ⟨rfl, hB2⟩
    have hs2 := hs.below hB2
    clear hs
    rw [HH.out]
    go_wp2_with fail
    go_ret2
    rw [HR.out]
    exact ⟨GRes.nil _ _ _, (hBf _ hB2)⟩

  · obtain ⟨v, hv⟩ : ∃ v, l[k] = v := ⟨_, rfl⟩
    have hvl : In64 v.left := by rw [← hv]; exact hx _ (List.getElem_mem hk)
    rw [hv] at hf
    rw [hf] at HFD
    have HH := Lib.hid hh
    have HX := Lib.hid hf
    clear hat hf hv hx
    obtain ⟨vid, vac, vcl, vins, vpr, x⟩ := v
    unfold Gr.val at HFD
    simp only at hvl HFD
    have hways : (q = 0) ∨ (0 < q ∧ x < 0) ∨ (q < 0 ∧ 0 < x) ∨ (0 < q ∧ 0 ≤ x ∧ x < q) ∨ (q < 0 ∧ x ≤ 0 ∧ q < x) ∨ (0 < q ∧ q ≤ x) ∨ (q < 0 ∧ x ≤ q) := by omega
    rcases hways with hw | hw | hw | hw | hw | hw | hw
    · have HR : Hid (allocR l id q = (2, [])) := Lib.hid (by rw [allocR, if_pos hh, HX.out, if_pos (by simp only [allocBad]; omega)])
      have e0 : (q == 0) = true := by simpa using hw
      clear hw hh hq hvl
      unfold Gr.val at *
      go_enter Try.func72, Try.ntmps72
      go_wp2_with fail
      refine (HFD.out _ hs).mono ?_
      rintro e w2 ⟨rfl, hB2⟩
      have hs2 := hs.below hB2
      clear hs
      rw [HH.out]
      have hBf := since_alloc hB2 (.cells #[.int .i64 vid, .int .i64 vac, .int .i64 vcl, .int .i64 vins, .int .i64 vpr, .int .i64 x] 102)
      go_wp2_with fail
      all_goals (go_ret2; rw [HR.out]; exact ⟨GRes.nil _ _ _, hBf⟩)

    · have HR : Hid (allocR l id q = (2, [])) := Lib.hid (by rw [allocR, if_pos hh, HX.out, if_pos (by simp only [allocBad]; omega)])
      have e0 : (q == 0) = false := by simp; omega
      have e1 : 0 < q := hw.1
      have e2 : x < 0 := hw.2
      have e3 : ¬ q < 0 := by omega
      have e4 : ¬ 0 < x := by omega
      clear hw hh hq hvl
      unfold Gr.val at *
      go_enter Try.func72, Try.ntmps72
      go_wp2_with fail
      refine (HFD.out _ hs).mono ?_
      rintro e w2 ⟨rfl, hB2⟩
      have hs2 := hs.below hB2
      clear hs
      rw [HH.out]
      have hBf := since_alloc hB2 (.cells #[.int .i64 vid, .int .i64 vac, .int .i64 vcl, .int .i64 vins, .int .i64 vpr, .int .i64 x] 102)
      go_wp2_with fail
      all_goals (go_ret2; rw [HR.out]; exact ⟨GRes.nil _ _ _, hBf⟩)

    · have HR : Hid (allocR l id q = (2, [])) := Lib.hid (by rw [allocR, if_pos hh, HX.out, if_pos (by simp only [allocBad]; omega)])
      have e0 : (q == 0) = false := by simp; omega
      have e1 : ¬ 0 < q := by omega
      have e2 : ¬ x < 0 := by omega
      have e3 : q < 0 := hw.1
      have e4 : 0 < x := hw.2
      clear hw hh hq hvl
      unfold Gr.val at *
      go_enter Try.func72, Try.ntmps72
      go_wp2_with fail
      refine (HFD.out _ hs).mono ?_
      rintro e w2 ⟨rfl, hB2⟩
      have hs2 := hs.below hB2
      clear hs
      rw [HH.out]
      have hBf := since_alloc hB2 (.cells #[.int .i64 vid, .int .i64 vac, .int .i64 vcl, .int .i64 vins, .int .i64 vpr, .int .i64 x] 102)
      go_wp2_with fail
      all_goals (go_ret2; rw [HR.out]; exact ⟨GRes.nil _ _ _, hBf⟩)

    · have HR : Hid (allocR l id q = (23, [])) := Lib.hid (by rw [allocR, if_pos hh, HX.out, if_neg (by simp only [allocBad]; omega), if_pos (by simp only [allocHeld]; omega)])
      have e0 : (q == 0) = false := by simp; omega
      have e1 : 0 < q := hw.1
      have e2 : ¬ x < 0 := by omega
      have e3 : ¬ q < 0 := by omega
      have e5 : x < q := by omega
      clear hw hh hq hvl
      unfold Gr.val at *
      go_enter Try.func72, Try.ntmps72
      go_wp2_with fail
      refine (HFD.out _ hs).mono ?_
      rintro e w2 ⟨rfl, hB2⟩
      have hs2 := hs.below hB2
      clear hs
      rw [HH.out]
      have hBf := since_alloc hB2 (.cells #[.int .i64 vid, .int .i64 vac, .int .i64 vcl, .int .i64 vins, .int .i64 vpr, .int .i64 x] 102)
      go_wp2_with fail
      all_goals (go_ret2; rw [HR.out]; exact ⟨GRes.nil _ _ _, hBf⟩)

    · have HR : Hid (allocR l id q = (23, [])) := Lib.hid (by rw [allocR, if_pos hh, HX.out, if_neg (by simp only [allocBad]; omega), if_pos (by simp only [allocHeld]; omega)])
      have e0 : (q == 0) = false := by simp; omega
      have e1 : ¬ 0 < q := by omega
      have e3 : q < 0 := hw.1
      have e4 : ¬ 0 < x := by omega
      have e5 : q < x := by omega
      clear hw hh hq hvl
      unfold Gr.val at *
      go_enter Try.func72, Try.ntmps72
      go_wp2_with fail
      refine (HFD.out _ hs).mono ?_
      rintro e w2 ⟨rfl, hB2⟩
      have hs2 := hs.below hB2
      clear hs
      rw [HH.out]
      have hBf := since_alloc hB2 (.cells #[.int .i64 vid, .int .i64 vac, .int .i64 vcl, .int .i64 vins, .int .i64 vpr, .int .i64 x] 102)
      go_wp2_with fail
      all_goals (go_ret2; rw [HR.out]; exact ⟨GRes.nil _ _ _, hBf⟩)

    · have HR : Hid (allocR l id q = (0, setG l id (x - q))) := Lib.hid (by rw [allocR, if_pos hh, HX.out, if_neg (by simp only [allocBad]; omega), if_neg (by simp only [allocHeld]; omega)])
      have e0 : (q == 0) = false := by simp; omega
      have e1 : 0 < q := hw.1
      have e2 : ¬ x < 0 := by omega
      have e3 : ¬ q < 0 := by omega
      have e5 : ¬ x < q := by omega
      have e4 : 0 < x := by omega
      have hnw : IntKind.i64.wrap (x - q) = x - q := IntWalk.i64_in _ (by unfold In64 at hq hvl; omega)
      clear hw hh hq hvl
      unfold Gr.val at *
      go_enter Try.func72, Try.ntmps72
      go_wp2_with fail
      refine (HFD.out _ hs).mono ?_
      rintro e w2 ⟨rfl, hB2⟩
      have hs2 := hs.below hB2
      clear hs
      rw [HH.out]
      have hBf := since_alloc hB2 (.cells #[.int .i64 vid, .int .i64 vac, .int .i64 vcl, .int .i64 vins, .int .i64 vpr, .int .i64 x] 102)
      have hs3 := hs2.alloc (.cells #[.int .i64 vid, .int .i64 vac, .int .i64 vcl, .int .i64 vins, .int .i64 vpr, .int .i64 x] 102)
      go_wp2_with fail
      refine (HSET.out (x - q) HH.out _ hs3).mono ?_
      rintro e w3 ⟨⟨A3, c3, rfl, hown⟩, hb3⟩
      have hB3 := since_step hBf hb3
      have hown2 := own_base hown hBf.size
      go_wp2_with fail
      go_ret2
      rw [HR.out]
      refine ⟨⟨A3, c3, ?_, ?_⟩, hB3⟩
      · simp only [setG_length]; rfl
      · simp only [setG_length]; exact hown2

    · have HR : Hid (allocR l id q = (0, setG l id (x - q))) := Lib.hid (by rw [allocR, if_pos hh, HX.out, if_neg (by simp only [allocBad]; omega), if_neg (by simp only [allocHeld]; omega)])
      have e0 : (q == 0) = false := by simp; omega
      have e1 : ¬ 0 < q := by omega
      have e2 : x < 0 := by omega
      have e3 : q < 0 := hw.1
      have e4 : ¬ 0 < x := by omega
      have e5 : ¬ q < x := by omega
      have hnw : IntKind.i64.wrap (x - q) = x - q := IntWalk.i64_in _ (by unfold In64 at hq hvl; omega)
      clear hw hh hq hvl
      unfold Gr.val at *
      go_enter Try.func72, Try.ntmps72
      go_wp2_with fail
      refine (HFD.out _ hs).mono ?_
      rintro e w2 ⟨rfl, hB2⟩
      have hs2 := hs.below hB2
      clear hs
      rw [HH.out]
      have hBf := since_alloc hB2 (.cells #[.int .i64 vid, .int .i64 vac, .int .i64 vcl, .int .i64 vins, .int .i64 vpr, .int .i64 x] 102)
      have hs3 := hs2.alloc (.cells #[.int .i64 vid, .int .i64 vac, .int .i64 vcl, .int .i64 vins, .int .i64 vpr, .int .i64 x] 102)
      go_wp2_with fail
      refine (HSET.out (x - q) HH.out _ hs3).mono ?_
      rintro e w3 ⟨⟨A3, c3, rfl, hown⟩, hb3⟩
      have hB3 := since_step hBf hb3
      have hown2 := own_base hown hBf.size
      go_wp2_with fail
      go_ret2
      rw [HR.out]
      refine ⟨⟨A3, c3, ?_, ?_⟩, hB3⟩
      · simp only [setG_length]; rfl
      · simp only [setG_length]; exact hown2



set_option maxHeartbeats 8000000 in
set_option maxRecDepth 100000 in
theorem rgback_any (A : Option Addr) (cap : Nat) (l : List Gr) (id q : Int) (hq : In64 q) (w : World) (hl : l.length ≤ 900000) (hx : ∀ g ∈ l, In64 g.left) (hs : Sl w A (rc Gr.cells l)) :
    Calls Try.prog 74 #[.slice A l.length cap, .int .i64 id, .int .i64 q] w fun e w' => GRes w.heap.size w' e (backR l id q) ∧ Below w.heap.size w w' := by
  have HFD := Lib.hid (fun W h => rgfind_any A cap l id W (by omega) h)
  have HSET := Lib.hid (fun n hh W h => rgset_any A cap l id n W hl hh h)
  rcases casesG l id with ⟨hh, hat, hfz, _⟩ | ⟨k, hk, hh, hat, hf, _⟩
  · have HR : Hid (backR l id q = (11, [])) := Lib.hid (by rw [backR, if_neg (by rw [hh]; decide)])
    have HH := Lib.hid hh
    rw [hfz] at HFD
    unfold Gr.zero at HFD
    have hBf := fun (W : World) (h : Below w.heap.size w W) => since_alloc h (.cells #[.int .i64 0, .int .i64 0, .int .i64 0, .int .i64 0, .int .i64 0, .int .i64 0] 102)
    clear hh hat hfz
    unfold Gr.val at *
    go_enter Try.func74, Try.ntmps74
    go_wp2_with fail
    refine (HFD.out _ hs).mono ?_
    rintro e w2 ⟨rfl, hB2⟩
    have hs2 := hs.below hB2
    clear hs
    rw [HH.out]
    go_wp2_with fail
    go_ret2
    rw [HR.out]
    exact ⟨GRes.nil _ _ _, (hBf _ hB2)⟩

  · obtain ⟨v, hv⟩ : ∃ v, l[k] = v := ⟨_, rfl⟩
    have hvl : In64 v.left := by rw [← hv]; exact hx _ (List.getElem_mem hk)
    rw [hv] at hf
    rw [hf] at HFD
    have HH := Lib.hid hh
    have HX := Lib.hid hf
    clear hat hf hv hx
    obtain ⟨vid, vac, vcl, vins, vpr, x⟩ := v
    unfold Gr.val at HFD
    simp only at hvl HFD
    have HOX := Lib.hid (fun W => bof_any x W hvl)
    have HOQ := Lib.hid (fun W => bof_any q W hq)
    have hmp : In64 1099511627776 := by unfold In64; decide
    have hmn : In64 (-1099511627776) := by unfold In64; decide
    have HMP := Lib.hid (fun W => bof_any 1099511627776 W hmp)
    have HMN := Lib.hid (fun W => bof_any (-1099511627776) W hmn)
    obtain ⟨c1, hc1⟩ : ∃ c, cmpZ (x + q) 1099511627776 = c := ⟨_, rfl⟩
    obtain ⟨c2, hc2⟩ : ∃ c, cmpZ (x + q) (-1099511627776) = c := ⟨_, rfl⟩
    have HC1 := Lib.hid hc1
    have HC2 := Lib.hid hc2
    by_cases h1 : 1099511627776 < x + q
    · have d1 : decide (0 < c1) = true := by rw [← hc1]; unfold cmpZ; simp; omega
      have HR : Hid (backR l id q = (7, [])) := Lib.hid (by rw [backR, if_pos hh, HX.out, if_neg (by unfold inQ; simp; omega)])
      clear hc1 hc2 h1 hh
      unfold Gr.val at *
      go_enter Try.func74, Try.ntmps74
      go_wp2_with fail
      refine (HFD.out _ hs).mono ?_
      rintro e w2 ⟨rfl, hB2⟩
      have hs2 := hs.below hB2
      clear hs
      rw [HH.out]
      have hBf := since_alloc hB2 (.cells #[.int .i64 vid, .int .i64 vac, .int .i64 vcl, .int .i64 vins, .int .i64 vpr, .int .i64 x] 102)
      have hs3 := hs2.alloc (.cells #[.int .i64 vid, .int .i64 vac, .int .i64 vcl, .int .i64 vins, .int .i64 vpr, .int .i64 x] 102)
      have hV3 := Gr.Bx.new w2 ⟨vid, vac, vcl, vins, vpr, x⟩
      unfold Gr.cells at hV3
      obtain ⟨x0, x1, x2, x3, x4, x5⟩ := hV3.got
      go_wp2_with fail
      refine (HOX.out _).mono ?_
      rintro e w4 ⟨⟨s4, A4, n4, d4, rfl, hf4, Y4⟩, hb4⟩
      have L4 := Y4.l64 hvl
      have hB4 := since_step hBf hb4
      have hs4 := hs3.below hb4
      go_wp2_with fail
      refine (HOQ.out _).mono ?_
      rintro e w5 ⟨⟨s5, A5, n5, d5, rfl, hf5, Y5⟩, hb5⟩
      have L5 := Y5.l64 hq
      have Y4 := Y4.below hb5
      have hB5 := since_step hB4 hb5
      have hs5 := hs4.below hb5
      go_wp2_with fail
      refine (badd' (by omega) (by omega) Y4 Y5).mono ?_
      rintro e w6 ⟨⟨s6, A6, n6, d6, rfl, hf6, Y6⟩, hb6⟩
      have L6 := len_add Y4 Y5 Y6
      have hl6 := Y6.lt
      have hB6 := since_alloc (since_step hB5 hb6) (.cells #[.bool s6, .slice A6 n6 d6] 69)
      have hs6 := (hs5.below hb6).alloc (.cells #[.bool s6, .slice A6 n6 d6] 69)
      have G6 := BB.new w6 s6 A6 n6 d6 69
      have Y6 := Y6.alloc (.cells #[.bool s6, .slice A6 n6 d6] 69)
      clear hb4 hb5 hb6 hB5 hB4 hs4 hs5 hs3 hs2 hV3 x0 x1 x2 x3 x4 x5 Y4 Y5 hBf
      go_upto_region 5 with fail
      generalize hWW : w6.alloc (.cells #[.bool s6, .slice A6 n6 d6] 69) = W at *
      clear hWW
      have HG : Hid (∀ V, Below W.heap.size W V → BB V w6.heap.size s6 A6 n6 d6 ∧ BigAt V s6 A6 n6 d6 (x + q)) := Lib.hid fun V hV => ⟨G6.below hV, Y6.below hV⟩
      clear G6 Y6
      go_wp2_with fail

      refine wp_region_held_drew (S := (fun V => Below W.heap.size W V)) (by kernel_rfl) (by exact (Below.refl _ _).drew) (fun hHeld => ?_)
      refine wpAnyH_take (i := 0) (oi := { dst := some 25, op := _, type := _, pos := _, after := _, guard := _ }) (v := ?_) rfl (by kernel_rfl) (by kernel_rfl) (by kernel_rfl) (fun _ _ _ h => h) (Or.inl ⟨by rfl, ?_⟩) hHeld ?_
      rotate_left
      · (intro w hSw; obtain ⟨⟨b1, b2, b3, b4, b5⟩, _⟩ := HG.out _ hSw; go_simp <;> with_reducible rfl)
      try simp only [Act.put, List.setIfInBounds_toArray, List.set_cons_zero, List.set_cons_succ]
      refine wpAnyH_ready (rs := [1]) (by kernel_rfl) (by simp) ?_
      refine AllReadyH.cons (o := { dst := some 26, op := _, type := _, pos := _, after := _, guard := _ }) rfl (fun K hK => ?_) AllReadyH.nil
      go_simp
      refine (HMP.out _).mono ?_
      rintro e v1 ⟨⟨t1, E1, i1, j1, rfl, hf1', Z1⟩, hk1⟩
      have hKeep := since_step hHeld hk1
      have M1 := Z1.l64 hmp
      go_wp2_with fail
      refine hK.out _ _ (by (try dsimp only); exact hKeep) (fun hHeld => ?_)
      clear hK K hKeep
      try simp only [Act.put, List.setIfInBounds_toArray, List.set_cons_zero, List.set_cons_succ]
      refine wpAnyH_ready (rs := [2]) (by kernel_rfl) (by simp) ?_
      refine AllReadyH.cons (o := { dst := some 27, op := _, type := _, pos := _, after := _, guard := _ }) rfl (fun K hK => ?_) AllReadyH.nil
      go_simp
      refine (bcmp_any _ _ _ _ _ _ _ _ _ _ _ (by omega) (by omega) (HG.out _ hHeld).2 Z1).mono ?_
      rintro e v2 ⟨rfl, hk2⟩
      have hKeep := since_step hHeld hk2
      rw [HC1.out]
      go_wp2_with fail
      refine hK.out _ _ (by (try dsimp only); exact hKeep) (fun hHeld => ?_)
      clear hK K hKeep
      try simp only [Act.put, List.setIfInBounds_toArray, List.set_cons_zero, List.set_cons_succ]
      refine wpAnyH_take (i := 3) (oi := { dst := some 28, op := _, type := _, pos := _, after := _, guard := _ }) (v := ?_) rfl (by kernel_rfl) (by kernel_rfl) (by kernel_rfl) (fun _ _ _ h => h) (Or.inl ⟨by rfl, ?_⟩) hHeld ?_
      rotate_left
      · (intro w hSw; obtain ⟨⟨b1, b2, b3, b4, b5⟩, _⟩ := HG.out _ hSw; go_simp <;> with_reducible rfl)
      try simp only [Act.put, List.setIfInBounds_toArray, List.set_cons_zero, List.set_cons_succ]
      refine wpAnyH_take (i := 4) (oi := { dst := some 29, op := _, type := _, pos := _, after := _, guard := _ }) (v := ?_) rfl (by kernel_rfl) (by kernel_rfl) (by kernel_rfl) (fun _ _ _ h => h) (Or.inl ⟨by rfl, ?_⟩) hHeld ?_
      rotate_left
      · (intro w hSw; obtain ⟨⟨b1, b2, b3, b4, b5⟩, _⟩ := HG.out _ hSw; go_simp <;> with_reducible rfl)
      try simp only [Act.put, List.setIfInBounds_toArray, List.set_cons_zero, List.set_cons_succ]
      refine wpAnyH_take (i := 5) (oi := { dst := some 30, op := _, type := _, pos := _, after := _, guard := _ }) (v := undef) rfl (by kernel_rfl) (by kernel_rfl) (by kernel_rfl) (fun _ _ _ h => h) (Or.inr ⟨by rfl, rfl⟩) hHeld ?_
      try simp only [Act.put, List.setIfInBounds_toArray, List.set_cons_zero, List.set_cons_succ]
      refine wpAnyH_take (i := 6) (oi := { dst := some 31, op := _, type := _, pos := _, after := _, guard := _ }) (v := undef) rfl (by kernel_rfl) (by kernel_rfl) (by kernel_rfl) (fun _ _ _ h => h) (Or.inr ⟨by rfl, rfl⟩) hHeld ?_
      try simp only [Act.put, List.setIfInBounds_toArray, List.set_cons_zero, List.set_cons_succ]
      refine wpAnyH_take (i := 7) (oi := { dst := some 32, op := _, type := _, pos := _, after := _, guard := _ }) (v := undef) rfl (by kernel_rfl) (by kernel_rfl) (by kernel_rfl) (fun _ _ _ h => h) (Or.inr ⟨by rfl, rfl⟩) hHeld ?_
      try simp only [Act.put, List.setIfInBounds_toArray, List.set_cons_zero, List.set_cons_succ]
      refine wpAnyH_take (i := 8) (oi := { dst := some 33, op := _, type := _, pos := _, after := _, guard := _ }) (v := undef) rfl (by kernel_rfl) (by kernel_rfl) (by kernel_rfl) (fun _ _ _ h => h) (Or.inr ⟨by rfl, rfl⟩) hHeld ?_
      try simp only [Act.put, List.setIfInBounds_toArray, List.set_cons_zero, List.set_cons_succ]
      refine wpAnyH_take (i := 9) (oi := { dst := some 34, op := _, type := _, pos := _, after := _, guard := _ }) (v := ?_) rfl (by kernel_rfl) (by kernel_rfl) (by kernel_rfl) (fun _ _ _ h => h) (Or.inl ⟨by rfl, ?_⟩) hHeld ?_
      rotate_left
      · (intro w hSw; obtain ⟨⟨b1, b2, b3, b4, b5⟩, _⟩ := HG.out _ hSw; go_simp <;> with_reducible rfl)
      try simp only [Act.put, List.setIfInBounds_toArray, List.set_cons_zero, List.set_cons_succ]
      refine wpAnyH_done (by kernel_rfl) ?_ _
      have hBf := hB6.trans (hHeld.mono hB6.size)
      go_wp2_with fail
      go_ret2
      rw [HR.out]
      exact ⟨GRes.nil _ _ _, hBf⟩
    · have d1 : decide (0 < c1) = false := by rw [← hc1]; unfold cmpZ; simp; split <;> first | omega | (split <;> omega)
      by_cases h2 : x + q < -1099511627776
      · have d2 : decide (c2 < 0) = true := by rw [← hc2]; unfold cmpZ; rw [if_neg (by omega), if_pos h2]; decide
        have HR : Hid (backR l id q = (7, [])) := Lib.hid (by rw [backR, if_pos hh, HX.out, if_neg (by unfold inQ; simp; omega)])
        clear hc1 hc2 h1 h2 hh
        unfold Gr.val at *
        go_enter Try.func74, Try.ntmps74
        go_wp2_with fail
        refine (HFD.out _ hs).mono ?_
        rintro e w2 ⟨rfl, hB2⟩
        have hs2 := hs.below hB2
        clear hs
        rw [HH.out]
        have hBf := since_alloc hB2 (.cells #[.int .i64 vid, .int .i64 vac, .int .i64 vcl, .int .i64 vins, .int .i64 vpr, .int .i64 x] 102)
        have hs3 := hs2.alloc (.cells #[.int .i64 vid, .int .i64 vac, .int .i64 vcl, .int .i64 vins, .int .i64 vpr, .int .i64 x] 102)
        have hV3 := Gr.Bx.new w2 ⟨vid, vac, vcl, vins, vpr, x⟩
        unfold Gr.cells at hV3
        obtain ⟨x0, x1, x2, x3, x4, x5⟩ := hV3.got
        go_wp2_with fail
        refine (HOX.out _).mono ?_
        rintro e w4 ⟨⟨s4, A4, n4, d4, rfl, hf4, Y4⟩, hb4⟩
        have L4 := Y4.l64 hvl
        have hB4 := since_step hBf hb4
        have hs4 := hs3.below hb4
        go_wp2_with fail
        refine (HOQ.out _).mono ?_
        rintro e w5 ⟨⟨s5, A5, n5, d5, rfl, hf5, Y5⟩, hb5⟩
        have L5 := Y5.l64 hq
        have Y4 := Y4.below hb5
        have hB5 := since_step hB4 hb5
        have hs5 := hs4.below hb5
        go_wp2_with fail
        refine (badd' (by omega) (by omega) Y4 Y5).mono ?_
        rintro e w6 ⟨⟨s6, A6, n6, d6, rfl, hf6, Y6⟩, hb6⟩
        have L6 := len_add Y4 Y5 Y6
        have hl6 := Y6.lt
        have hB6 := since_alloc (since_step hB5 hb6) (.cells #[.bool s6, .slice A6 n6 d6] 69)
        have hs6 := (hs5.below hb6).alloc (.cells #[.bool s6, .slice A6 n6 d6] 69)
        have G6 := BB.new w6 s6 A6 n6 d6 69
        have Y6 := Y6.alloc (.cells #[.bool s6, .slice A6 n6 d6] 69)
        clear hb4 hb5 hb6 hB5 hB4 hs4 hs5 hs3 hs2 hV3 x0 x1 x2 x3 x4 x5 Y4 Y5 hBf
        go_upto_region 5 with fail
        generalize hWW : w6.alloc (.cells #[.bool s6, .slice A6 n6 d6] 69) = W at *
        clear hWW
        have HG : Hid (∀ V, Below W.heap.size W V → BB V w6.heap.size s6 A6 n6 d6 ∧ BigAt V s6 A6 n6 d6 (x + q)) := Lib.hid fun V hV => ⟨G6.below hV, Y6.below hV⟩
        clear G6 Y6
        go_wp2_with fail

        refine wp_region_held_drew (S := (fun V => Below W.heap.size W V)) (by kernel_rfl) (by exact (Below.refl _ _).drew) (fun hHeld => ?_)
        refine wpAnyH_take (i := 0) (oi := { dst := some 25, op := _, type := _, pos := _, after := _, guard := _ }) (v := ?_) rfl (by kernel_rfl) (by kernel_rfl) (by kernel_rfl) (fun _ _ _ h => h) (Or.inl ⟨by rfl, ?_⟩) hHeld ?_
        rotate_left
        · (intro w hSw; obtain ⟨⟨b1, b2, b3, b4, b5⟩, _⟩ := HG.out _ hSw; go_simp <;> with_reducible rfl)
        try simp only [Act.put, List.setIfInBounds_toArray, List.set_cons_zero, List.set_cons_succ]
        refine wpAnyH_ready (rs := [1]) (by kernel_rfl) (by simp) ?_
        refine AllReadyH.cons (o := { dst := some 26, op := _, type := _, pos := _, after := _, guard := _ }) rfl (fun K hK => ?_) AllReadyH.nil
        go_simp
        refine (HMP.out _).mono ?_
        rintro e v1 ⟨⟨t1, E1, i1, j1, rfl, hf1', Z1⟩, hk1⟩
        have hKeep := since_step hHeld hk1
        have M1 := Z1.l64 hmp
        go_wp2_with fail
        refine hK.out _ _ (by (try dsimp only); exact hKeep) (fun hHeld => ?_)
        clear hK K hKeep
        try simp only [Act.put, List.setIfInBounds_toArray, List.set_cons_zero, List.set_cons_succ]
        refine wpAnyH_ready (rs := [2]) (by kernel_rfl) (by simp) ?_
        refine AllReadyH.cons (o := { dst := some 27, op := _, type := _, pos := _, after := _, guard := _ }) rfl (fun K hK => ?_) AllReadyH.nil
        go_simp
        refine (bcmp_any _ _ _ _ _ _ _ _ _ _ _ (by omega) (by omega) (HG.out _ hHeld).2 Z1).mono ?_
        rintro e v2 ⟨rfl, hk2⟩
        have hKeep := since_step hHeld hk2
        rw [HC1.out]
        go_wp2_with fail
        refine hK.out _ _ (by (try dsimp only); exact hKeep) (fun hHeld => ?_)
        clear hK K hKeep
        try simp only [Act.put, List.setIfInBounds_toArray, List.set_cons_zero, List.set_cons_succ]
        refine wpAnyH_take (i := 3) (oi := { dst := some 28, op := _, type := _, pos := _, after := _, guard := _ }) (v := ?_) rfl (by kernel_rfl) (by kernel_rfl) (by kernel_rfl) (fun _ _ _ h => h) (Or.inl ⟨by rfl, ?_⟩) hHeld ?_
        rotate_left
        · (intro w hSw; obtain ⟨⟨b1, b2, b3, b4, b5⟩, _⟩ := HG.out _ hSw; go_simp <;> with_reducible rfl)
        try simp only [Act.put, List.setIfInBounds_toArray, List.set_cons_zero, List.set_cons_succ]
        refine wpAnyH_take (i := 4) (oi := { dst := some 29, op := _, type := _, pos := _, after := _, guard := _ }) (v := ?_) rfl (by kernel_rfl) (by kernel_rfl) (by kernel_rfl) (fun _ _ _ h => h) (Or.inl ⟨by rfl, ?_⟩) hHeld ?_
        rotate_left
        · (intro w hSw; obtain ⟨⟨b1, b2, b3, b4, b5⟩, _⟩ := HG.out _ hSw; go_simp <;> with_reducible rfl)
        try simp only [Act.put, List.setIfInBounds_toArray, List.set_cons_zero, List.set_cons_succ]
        refine wpAnyH_take (i := 5) (oi := { dst := some 30, op := _, type := _, pos := _, after := _, guard := _ }) (v := ?_) rfl (by kernel_rfl) (by kernel_rfl) (by kernel_rfl) (fun _ _ _ h => h) (Or.inl ⟨by rfl, ?_⟩) hHeld ?_
        rotate_left
        · (intro w hSw; obtain ⟨⟨b1, b2, b3, b4, b5⟩, _⟩ := HG.out _ hSw; go_simp <;> with_reducible rfl)
        try simp only [Act.put, List.setIfInBounds_toArray, List.set_cons_zero, List.set_cons_succ]
        refine wpAnyH_ready (rs := [6]) (by kernel_rfl) (by simp) ?_
        refine AllReadyH.cons (o := { dst := some 31, op := _, type := _, pos := _, after := _, guard := _ }) rfl (fun K hK => ?_) AllReadyH.nil
        go_simp
        refine (HMN.out _).mono ?_
        rintro e v3 ⟨⟨t3, E3, i3, j3, rfl, hf3', Z3⟩, hk3⟩
        have hKeep := since_step hHeld hk3
        have M3 := Z3.l64 hmn
        go_wp2_with fail
        refine hK.out _ _ (by (try dsimp only); exact hKeep) (fun hHeld => ?_)
        clear hK K hKeep
        try simp only [Act.put, List.setIfInBounds_toArray, List.set_cons_zero, List.set_cons_succ]
        refine wpAnyH_ready (rs := [7]) (by kernel_rfl) (by simp) ?_
        refine AllReadyH.cons (o := { dst := some 32, op := _, type := _, pos := _, after := _, guard := _ }) rfl (fun K hK => ?_) AllReadyH.nil
        go_simp
        refine (bcmp_any _ _ _ _ _ _ _ _ _ _ _ (by omega) (by omega) (HG.out _ hHeld).2 Z3).mono ?_
        rintro e v4 ⟨rfl, hk4⟩
        have hKeep := since_step hHeld hk4
        rw [HC2.out]
        go_wp2_with fail
        refine hK.out _ _ (by (try dsimp only); exact hKeep) (fun hHeld => ?_)
        clear hK K hKeep
        try simp only [Act.put, List.setIfInBounds_toArray, List.set_cons_zero, List.set_cons_succ]
        refine wpAnyH_take (i := 8) (oi := { dst := some 33, op := _, type := _, pos := _, after := _, guard := _ }) (v := ?_) rfl (by kernel_rfl) (by kernel_rfl) (by kernel_rfl) (fun _ _ _ h => h) (Or.inl ⟨by rfl, ?_⟩) hHeld ?_
        rotate_left
        · (intro w hSw; obtain ⟨⟨b1, b2, b3, b4, b5⟩, _⟩ := HG.out _ hSw; go_simp <;> with_reducible rfl)
        try simp only [Act.put, List.setIfInBounds_toArray, List.set_cons_zero, List.set_cons_succ]
        refine wpAnyH_take (i := 9) (oi := { dst := some 34, op := _, type := _, pos := _, after := _, guard := _ }) (v := ?_) rfl (by kernel_rfl) (by kernel_rfl) (by kernel_rfl) (fun _ _ _ h => h) (Or.inl ⟨by rfl, ?_⟩) hHeld ?_
        rotate_left
        · (intro w hSw; obtain ⟨⟨b1, b2, b3, b4, b5⟩, _⟩ := HG.out _ hSw; go_simp <;> with_reducible rfl)
        try simp only [Act.put, List.setIfInBounds_toArray, List.set_cons_zero, List.set_cons_succ]
        refine wpAnyH_done (by kernel_rfl) ?_ _
        have hBf := hB6.trans (hHeld.mono hB6.size)
        go_wp2_with fail
        go_ret2
        rw [HR.out]
        exact ⟨GRes.nil _ _ _, hBf⟩
      · have d2 : decide (c2 < 0) = false := by rw [← hc2]; unfold cmpZ; split; decide; first | decide | (rw [if_neg h2]; decide)
        have HR : Hid (backR l id q = (0, setG l id (x + q))) := Lib.hid (by rw [backR, if_pos hh, HX.out, if_pos (by unfold inQ; simp; omega)])
        have hin : In64 (x + q) := by unfold In64; omega
        clear hc1 hc2 h1 h2 hh
        unfold Gr.val at *
        go_enter Try.func74, Try.ntmps74
        go_wp2_with fail
        refine (HFD.out _ hs).mono ?_
        rintro e w2 ⟨rfl, hB2⟩
        have hs2 := hs.below hB2
        clear hs
        rw [HH.out]
        have hBf := since_alloc hB2 (.cells #[.int .i64 vid, .int .i64 vac, .int .i64 vcl, .int .i64 vins, .int .i64 vpr, .int .i64 x] 102)
        have hs3 := hs2.alloc (.cells #[.int .i64 vid, .int .i64 vac, .int .i64 vcl, .int .i64 vins, .int .i64 vpr, .int .i64 x] 102)
        have hV3 := Gr.Bx.new w2 ⟨vid, vac, vcl, vins, vpr, x⟩
        unfold Gr.cells at hV3
        obtain ⟨x0, x1, x2, x3, x4, x5⟩ := hV3.got
        go_wp2_with fail
        refine (HOX.out _).mono ?_
        rintro e w4 ⟨⟨s4, A4, n4, d4, rfl, hf4, Y4⟩, hb4⟩
        have L4 := Y4.l64 hvl
        have hB4 := since_step hBf hb4
        have hs4 := hs3.below hb4
        go_wp2_with fail
        refine (HOQ.out _).mono ?_
        rintro e w5 ⟨⟨s5, A5, n5, d5, rfl, hf5, Y5⟩, hb5⟩
        have L5 := Y5.l64 hq
        have Y4 := Y4.below hb5
        have hB5 := since_step hB4 hb5
        have hs5 := hs4.below hb5
        go_wp2_with fail
        refine (badd' (by omega) (by omega) Y4 Y5).mono ?_
        rintro e w6 ⟨⟨s6, A6, n6, d6, rfl, hf6, Y6⟩, hb6⟩
        have L6 := len_add Y4 Y5 Y6
        have hl6 := Y6.lt
        have hB6 := since_alloc (since_step hB5 hb6) (.cells #[.bool s6, .slice A6 n6 d6] 69)
        have hs6 := (hs5.below hb6).alloc (.cells #[.bool s6, .slice A6 n6 d6] 69)
        have G6 := BB.new w6 s6 A6 n6 d6 69
        have Y6 := Y6.alloc (.cells #[.bool s6, .slice A6 n6 d6] 69)
        clear hb4 hb5 hb6 hB5 hB4 hs4 hs5 hs3 hs2 hV3 x0 x1 x2 x3 x4 x5 Y4 Y5 hBf
        go_upto_region 5 with fail
        generalize hWW : w6.alloc (.cells #[.bool s6, .slice A6 n6 d6] 69) = W at *
        clear hWW
        have HG : Hid (∀ V, Below W.heap.size W V → BB V w6.heap.size s6 A6 n6 d6 ∧ BigAt V s6 A6 n6 d6 (x + q)) := Lib.hid fun V hV => ⟨G6.below hV, Y6.below hV⟩
        clear G6 Y6
        go_wp2_with fail

        refine wp_region_held_drew (S := (fun V => Below W.heap.size W V)) (by kernel_rfl) (by exact (Below.refl _ _).drew) (fun hHeld => ?_)
        refine wpAnyH_take (i := 0) (oi := { dst := some 25, op := _, type := _, pos := _, after := _, guard := _ }) (v := ?_) rfl (by kernel_rfl) (by kernel_rfl) (by kernel_rfl) (fun _ _ _ h => h) (Or.inl ⟨by rfl, ?_⟩) hHeld ?_
        rotate_left
        · (intro w hSw; obtain ⟨⟨b1, b2, b3, b4, b5⟩, _⟩ := HG.out _ hSw; go_simp <;> with_reducible rfl)
        try simp only [Act.put, List.setIfInBounds_toArray, List.set_cons_zero, List.set_cons_succ]
        refine wpAnyH_ready (rs := [1]) (by kernel_rfl) (by simp) ?_
        refine AllReadyH.cons (o := { dst := some 26, op := _, type := _, pos := _, after := _, guard := _ }) rfl (fun K hK => ?_) AllReadyH.nil
        go_simp
        refine (HMP.out _).mono ?_
        rintro e v1 ⟨⟨t1, E1, i1, j1, rfl, hf1', Z1⟩, hk1⟩
        have hKeep := since_step hHeld hk1
        have M1 := Z1.l64 hmp
        go_wp2_with fail
        refine hK.out _ _ (by (try dsimp only); exact hKeep) (fun hHeld => ?_)
        clear hK K hKeep
        try simp only [Act.put, List.setIfInBounds_toArray, List.set_cons_zero, List.set_cons_succ]
        refine wpAnyH_ready (rs := [2]) (by kernel_rfl) (by simp) ?_
        refine AllReadyH.cons (o := { dst := some 27, op := _, type := _, pos := _, after := _, guard := _ }) rfl (fun K hK => ?_) AllReadyH.nil
        go_simp
        refine (bcmp_any _ _ _ _ _ _ _ _ _ _ _ (by omega) (by omega) (HG.out _ hHeld).2 Z1).mono ?_
        rintro e v2 ⟨rfl, hk2⟩
        have hKeep := since_step hHeld hk2
        rw [HC1.out]
        go_wp2_with fail
        refine hK.out _ _ (by (try dsimp only); exact hKeep) (fun hHeld => ?_)
        clear hK K hKeep
        try simp only [Act.put, List.setIfInBounds_toArray, List.set_cons_zero, List.set_cons_succ]
        refine wpAnyH_take (i := 3) (oi := { dst := some 28, op := _, type := _, pos := _, after := _, guard := _ }) (v := ?_) rfl (by kernel_rfl) (by kernel_rfl) (by kernel_rfl) (fun _ _ _ h => h) (Or.inl ⟨by rfl, ?_⟩) hHeld ?_
        rotate_left
        · (intro w hSw; obtain ⟨⟨b1, b2, b3, b4, b5⟩, _⟩ := HG.out _ hSw; go_simp <;> with_reducible rfl)
        try simp only [Act.put, List.setIfInBounds_toArray, List.set_cons_zero, List.set_cons_succ]
        refine wpAnyH_take (i := 4) (oi := { dst := some 29, op := _, type := _, pos := _, after := _, guard := _ }) (v := ?_) rfl (by kernel_rfl) (by kernel_rfl) (by kernel_rfl) (fun _ _ _ h => h) (Or.inl ⟨by rfl, ?_⟩) hHeld ?_
        rotate_left
        · (intro w hSw; obtain ⟨⟨b1, b2, b3, b4, b5⟩, _⟩ := HG.out _ hSw; go_simp <;> with_reducible rfl)
        try simp only [Act.put, List.setIfInBounds_toArray, List.set_cons_zero, List.set_cons_succ]
        refine wpAnyH_take (i := 5) (oi := { dst := some 30, op := _, type := _, pos := _, after := _, guard := _ }) (v := ?_) rfl (by kernel_rfl) (by kernel_rfl) (by kernel_rfl) (fun _ _ _ h => h) (Or.inl ⟨by rfl, ?_⟩) hHeld ?_
        rotate_left
        · (intro w hSw; obtain ⟨⟨b1, b2, b3, b4, b5⟩, _⟩ := HG.out _ hSw; go_simp <;> with_reducible rfl)
        try simp only [Act.put, List.setIfInBounds_toArray, List.set_cons_zero, List.set_cons_succ]
        refine wpAnyH_ready (rs := [6]) (by kernel_rfl) (by simp) ?_
        refine AllReadyH.cons (o := { dst := some 31, op := _, type := _, pos := _, after := _, guard := _ }) rfl (fun K hK => ?_) AllReadyH.nil
        go_simp
        refine (HMN.out _).mono ?_
        rintro e v3 ⟨⟨t3, E3, i3, j3, rfl, hf3', Z3⟩, hk3⟩
        have hKeep := since_step hHeld hk3
        have M3 := Z3.l64 hmn
        go_wp2_with fail
        refine hK.out _ _ (by (try dsimp only); exact hKeep) (fun hHeld => ?_)
        clear hK K hKeep
        try simp only [Act.put, List.setIfInBounds_toArray, List.set_cons_zero, List.set_cons_succ]
        refine wpAnyH_ready (rs := [7]) (by kernel_rfl) (by simp) ?_
        refine AllReadyH.cons (o := { dst := some 32, op := _, type := _, pos := _, after := _, guard := _ }) rfl (fun K hK => ?_) AllReadyH.nil
        go_simp
        refine (bcmp_any _ _ _ _ _ _ _ _ _ _ _ (by omega) (by omega) (HG.out _ hHeld).2 Z3).mono ?_
        rintro e v4 ⟨rfl, hk4⟩
        have hKeep := since_step hHeld hk4
        rw [HC2.out]
        go_wp2_with fail
        refine hK.out _ _ (by (try dsimp only); exact hKeep) (fun hHeld => ?_)
        clear hK K hKeep
        try simp only [Act.put, List.setIfInBounds_toArray, List.set_cons_zero, List.set_cons_succ]
        refine wpAnyH_take (i := 8) (oi := { dst := some 33, op := _, type := _, pos := _, after := _, guard := _ }) (v := ?_) rfl (by kernel_rfl) (by kernel_rfl) (by kernel_rfl) (fun _ _ _ h => h) (Or.inl ⟨by rfl, ?_⟩) hHeld ?_
        rotate_left
        · (intro w hSw; obtain ⟨⟨b1, b2, b3, b4, b5⟩, _⟩ := HG.out _ hSw; go_simp <;> with_reducible rfl)
        try simp only [Act.put, List.setIfInBounds_toArray, List.set_cons_zero, List.set_cons_succ]
        refine wpAnyH_take (i := 9) (oi := { dst := some 34, op := _, type := _, pos := _, after := _, guard := _ }) (v := ?_) rfl (by kernel_rfl) (by kernel_rfl) (by kernel_rfl) (fun _ _ _ h => h) (Or.inl ⟨by rfl, ?_⟩) hHeld ?_
        rotate_left
        · (intro w hSw; obtain ⟨⟨b1, b2, b3, b4, b5⟩, _⟩ := HG.out _ hSw; go_simp <;> with_reducible rfl)
        try simp only [Act.put, List.setIfInBounds_toArray, List.set_cons_zero, List.set_cons_succ]
        refine wpAnyH_done (by kernel_rfl) ?_ _
        have hBf := hB6.trans (hHeld.mono hB6.size)
        have hs7 := hs6.below hHeld
        obtain ⟨⟨b1, b2, b3, b4, b5⟩, Y7⟩ := HG.out _ hHeld
        go_wp2_with fail
        refine (rint_any (x + q) hin _ _ _ _ _ Y7).mono ?_
        rintro e w8 ⟨rfl, hb8⟩
        have hB8 := since_step hBf hb8
        have hs8 := hs7.below hb8
        go_wp2_with fail
        refine (HSET.out (x + q) HH.out _ hs8).mono ?_
        rintro e w9 ⟨⟨A3, c3, rfl, hown⟩, hb9⟩
        have hB9 := since_step hB8 hb9
        have hown2 := own_base hown hB8.size
        go_wp2_with fail
        go_ret2
        rw [HR.out]
        refine ⟨⟨A3, c3, ?_, ?_⟩, hB9⟩
        · simp only [setG_length]; rfl
        · simp only [setG_length]; exact hown2


def GOk (R : List Gr) : Prop := ∀ g ∈ R, inQ g.left = true
theorem GOk.in64 {R : List Gr} (h : GOk R) : ∀ g ∈ R, In64 g.left := fun g hg => by have := h g hg; unfold inQ at this; simp at this; unfold In64; omega
def GTabRel (n : Nat) (w : World) (out i : Value) (wr : World) : Prop :=
  ∃ (k : Nat) (R : List Gr) (A' : Option Addr) (c' : Nat), k ≤ n ∧ k ≤ 70 ∧ i = .int .i64 k ∧ out = .slice A' R.length c' ∧ wr.ownsRow w.heap.size 102 6 (.slice A' R.length c') R.length (rc Gr.cells R) ∧ GOk R ∧ R.length ≤ k ∧ Below w.heap.size w wr
def GTabRes (w w' : World) (e : Ending) : Prop :=
  ∃ (R : List Gr) (A' : Option Addr) (c' : Nat), e = .returned (.slice A' R.length c') ∧ w'.ownsRow w.heap.size 102 6 (.slice A' R.length c') R.length (rc Gr.cells R) ∧ GOk R ∧ R.length ≤ 70
set_option maxHeartbeats 4000000 in
set_option maxRecDepth 100000 in
theorem rgtable_any (A : Option Addr) (cap : Nat) (l : List Gr) (w : World) (hs : Sl w A (rc Gr.cells l)) :
    Calls Try.prog 68 #[.slice A l.length cap] w fun e w' => GTabRes w w' e ∧ Below w.heap.size w w' := by
  go_enter Try.func68, Try.ntmps68
  go_wp2_with fail
  go_loopw [3, 4] (fun out i wr => GTabRel l.length w out i wr) (fun _ i _ => l.length - (intOf i).toNat)
  case atStart => exact ⟨0, [], none, 0, by omega, by omega, rfl, rfl, own_nil _ _ _, (fun g h => by cases h), by simp, Below.refl _ _⟩
  case round =>
    obtain ⟨k, R, A', c', hk, hk8, rfl, rfl, hown, hsd, hRk, hB⟩ := hrel
    by_cases hgo : k < l.length ∧ k < 70
    · obtain ⟨hlt, hlt8⟩ := hgo
      obtain ⟨b, o, rfl, hbw, hg⟩ := hs.gr hlt
      have hg1 : l[k].at wr b (o + k * 6) := Gr.at_keep (w := w) hg fun i => hB.cell (p := ⟨b, i, none⟩) hbw
      have hlk : (k : Int) < (l.length : Int) := by omega
      have hlk8 : (k : Int) < 70 := by omega
      have HPT := Lib.hid (rgopen_any A' c' R l[k] wr (by omega) (Sl.of_own hown))
      have HSD := Lib.hid hsd
      have hcase : (openR R l[k] = (0, nextG R, R ++ [numG l[k] (nextG R)]) ∧ inQ l[k].left = true) ∨ ∃ n, n ≠ 0 ∧ openR R l[k] = (n, 0, []) := by
        unfold openR
        split
        · exact .inr ⟨2, by decide, rfl⟩
        · rename_i hn
          split
          · exact .inr ⟨25, by decide, rfl⟩
          · exact .inl ⟨rfl, by cases h : inQ l[k].left; exact absurd (.inr h) hn; rfl⟩
      clear hg hs hbw hsd
      generalize l[k] = v at *
      rcases hcase with ⟨hR, hq⟩ | ⟨n, hn, hR⟩
      · rw [hR] at HPT
        have HR := Lib.hid (show GOk (R ++ [numG v (nextG R)]) from fun g hg => by
          rcases List.mem_append.1 hg with h | h
          · exact HSD.out g h
          · simp at h; subst h; exact hq)
        have hln : (R ++ [numG v (nextG R)]).length = R.length + 1 := by simp
        have HLN := Lib.hid hln
        generalize R ++ [numG v (nextG R)] = M at *
        generalize nextG R = nx at *
        clear hR hq hln
        obtain ⟨g0, g1, g2, g3, g4, g5⟩ := _root_.id hg1
        unfold Gr.val at HPT
        go_wp2_with fail
        refine HPT.out.mono ?_
        rintro e w1 ⟨⟨A1, c1, rfl, hown1⟩, hb1⟩
        have hB2 := since_step hB hb1
        have hown2 := own_base hown1 hB.size
        clear hown hown1 hb1 g0 g1 g2 g3 g4 g5
        go_wp2_with fail
        go_roundw
        case rel => exact ⟨k + 1, M, A1, c1, by omega, by omega, by go_num, rfl, hown2, HR.out, by rw [HLN.out]; omega, hB2⟩
        case measure => simp [intOf]; omega
      · rw [hR] at HPT
        clear hR
        obtain ⟨g0, g1, g2, g3, g4, g5⟩ := _root_.id hg1
        unfold Gr.val at HPT
        have hnb : (n == 0) = false := by simpa using hn
        go_wp2_with fail
        refine HPT.out.mono ?_
        rintro e w1 ⟨⟨A1, c1, rfl, hown1⟩, hb1⟩
        have hB2 := since_step hB hb1
        have hown2 := own_below hown hb1
        clear hown hown1 hb1 g0 g1 g2 g3 g4 g5
        go_wp2_with fail
        go_roundw
        case rel => exact ⟨k + 1, R, A', c', by omega, by omega, by go_num, rfl, hown2, HSD.out, by omega, hB2⟩
        case measure => simp [intOf]; omega
    · have hend : ¬ ((k : Int) < (l.length : Int)) ∨ ((k : Int) < (l.length : Int) ∧ ¬ ((k : Int) < 70)) := by omega
      have HF := Lib.hid (show GOk R ∧ R.length ≤ 70 from ⟨hsd, by omega⟩)
      clear hgo hsd
      rcases hend with h1 | ⟨h1, h2⟩
      all_goals
        go_wp2_with fail
        go_ret
        exact ⟨⟨R, A', c', rfl, hown, HF.out.1, HF.out.2⟩, hB⟩
end Go.Proofs.Ytpnaihnmmnjacaa
