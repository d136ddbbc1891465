/-
  Layer 11, seventh part: With, Same, several, lives (laid by gen_vec7.py).
-/
import Derived.Test.YtfagpdnckmaomaaVec6
namespace Go.Proofs.Ytfagpdnckmaomaa
open Go.ChangeShapes Go.WideShapes Go.ChangeAt Go.RowKit
set_option linter.unusedVariables false
set_option linter.unusedSimpArgs false

theorem ELgL : Elem Try.prog 22 25 1 24 := Elem.mk' (z := .slice none 0 0) (by kernel_rfl) (by kernel_rfl) (by decide) (by decide)
/-! plain mathematics -/
theorem sumG_map (S : List (RowS Lg)) (i j : Nat) : sumG S i j = (((S.map RowS.l).take i).map fun l => getG l ((j : Int) + 1)).sum := by
  unfold sumG
  rw [← List.map_take, List.map_map]; rfl
theorem addR_eq {S U : List (RowS Lg)} (h : S.map RowS.l = U.map RowS.l) : addR S = addR U := by
  have hl : S.length = U.length := by have := congrArg List.length h; simpa using this
  have h1 : (∀ s ∈ S, isG s.l = true) ↔ ∀ s ∈ U, isG s.l = true := by
    have e : ∀ X : List (RowS Lg), (∀ s ∈ X, isG s.l = true) ↔ ∀ l ∈ X.map RowS.l, isG l = true := fun X => by
      constructor
      · intro hx l hl
        obtain ⟨s, hs, rfl⟩ := List.mem_map.1 hl
        exact hx s hs
      · intro hx s hs
        exact hx _ (List.mem_map.2 ⟨s, hs, rfl⟩)
    rw [e, e, h]
  have h2 : ((List.range 8).map fun j : Nat => sumG S S.length j) = (List.range 8).map fun j : Nat => sumG U U.length j := List.map_congr_left fun j _ => by rw [sumG_map, sumG_map, h, hl]
  unfold addR
  rw [h2]
  by_cases hs : ∀ s ∈ S, isG s.l = true
  · rw [if_pos hs, if_pos (h1.1 hs)]
  · rw [if_neg hs, if_neg (fun h => hs (h1.2 h))]
/-- the sum of rows -/
noncomputable def addL (L : List (List Lg)) : Int × List Lg := addR (L.map fun l => ⟨none, 0, l⟩)
theorem addR_L (S : List (RowS Lg)) : addR S = addL (S.map RowS.l) := addR_eq (by simp [List.map_map, Function.comp])
theorem sum_two (a b : List Lg) : addL [a, b] = if isG a = true ∧ isG b = true then ofR ((List.range 8).map fun j : Nat => getG a ((j : Int) + 1) + getG b ((j : Int) + 1)) else (3, []) := by
  unfold addL addR
  by_cases h : isG a = true ∧ isG b = true
  · rw [if_pos h, if_pos (by simp [h.1, h.2])]
    congr 1
    refine List.map_congr_left fun j _ => ?_
    rw [sumG_map]
    simp
  · rw [if_neg h, if_neg (by intro h2; exact h ⟨h2 ⟨none, 0, a⟩ (by simp), h2 ⟨none, 0, b⟩ (by simp)⟩)]
theorem sum_swap (a b : List Lg) : addL [a, b] = addL [b, a] := by
  rw [sum_two, sum_two]
  by_cases h : isG a = true ∧ isG b = true
  · rw [if_pos h, if_pos h.symm]
    congr 1
    exact List.map_congr_left fun j _ => by rw [Int.add_comm]
  · rw [if_neg h, if_neg (fun h2 => h h2.symm)]
theorem legs_mem : ∀ (i : Int) (l : List Int), ∀ x ∈ legsF i l, i ≤ x.ins ∧ x.ins < i + l.length ∧ x.qty ≠ 0
  | _, [], x, h => by cases h
  | i, q :: r, x, h => by
    have ih := legs_mem (i + 1) r x
    unfold legsF at h
    simp only [List.length_cons]
    rcases List.mem_append.1 h with h | h
    · by_cases h0 : q = 0
      · rw [if_pos h0] at h; cases h
      · rw [if_neg h0] at h
        simp only [List.mem_singleton] at h
        subst h
        simp only
        exact ⟨by omega, by omega, h0⟩
    · have := ih h; omega
theorem legs_so : ∀ (i : Int) (l : List Int), SoG (legsF i l)
  | _, [] => List.Pairwise.nil
  | i, q :: r => by
    have ih := legs_so (i + 1) r
    unfold legsF
    by_cases h0 : q = 0
    · rw [if_pos h0]; exact ih
    · rw [if_neg h0, List.singleton_append]
      refine List.Pairwise.cons (fun x hx => ?_) ih
      have := legs_mem (i + 1) r x hx
      simp only
      omega
theorem ofR_is {l : List Int} (hl : l.length = 8) : isG (ofR l).2 = true := by
  unfold ofR
  split
  · refine (isG_iff _).2 ⟨fun x hx => ?_, legs_so _ _⟩
    have := legs_mem 1 l x hx
    omega
  · rfl
theorem ofR_err {l : List Int} (h : (ofR l).1 ≠ 0) : (ofR l).2 = [] := by
  revert h
  unfold ofR
  split
  · intro h; exact absurd rfl h
  · intro _; rfl
theorem addR_is (S : List (RowS Lg)) : isG (addR S).2 = true := by
  unfold addR
  split
  · exact ofR_is (by simp)
  · rfl
theorem addR_err {S : List (RowS Lg)} (h : (addR S).1 ≠ 0) : (addR S).2 = [] := by
  revert h
  unfold addR
  split
  · intro h; exact ofR_err h
  · intro _; rfl
theorem addR_len (S : List (RowS Lg)) : (addR S).2.length ≤ 8 := by
  unfold addR
  split
  · unfold ofR
    split
    · have := legsF_len 1 ((List.range 8).map fun j : Nat => sumG S S.length j)
      simpa using this
    · simp
  · simp
theorem negR_err {l : List Lg} (h : (negR l).1 ≠ 0) : (negR l).2 = [] := by
  revert h
  unfold negR
  split
  · intro _; rfl
  · split
    · intro h; exact absurd rfl h
    · intro _; rfl
theorem negR_len (l : List Lg) : (negR l).2.length ≤ l.length := by
  unfold negR
  split
  · simp
  · split
    · simp [negG]
    · simp
theorem negR_ok {l : List Lg} (h : (negR l).1 = 0) : isG l = true ∧ (negR l).2 = negG l ∧ ∀ x ∈ l, In64 (-x.qty) := by
  revert h
  unfold negR
  split
  · intro h; cases h
  · rename_i h1
    split
    · rename_i h2; intro _; exact ⟨by simpa using h1, rfl, h2⟩
    · intro h; cases h
theorem negG_is {l : List Lg} (h : isG l = true) : isG (negG l) = true := by
  obtain ⟨h1, h2⟩ := (isG_iff l).1 h
  refine (isG_iff _).2 ⟨fun x hx => ?_, negG_so h2⟩
  obtain ⟨y, hy, rfl⟩ := List.mem_map.1 hx
  have := h1 y hy
  simp only
  omega
theorem sum_neg {l : List Lg} (h : isG l = true) : addL [l, negG l] = (0, []) := by
  rw [sum_two, if_pos ⟨h, negG_is h⟩]
  have e : ((List.range 8).map fun j : Nat => getG l ((j : Int) + 1) + getG (negG l) ((j : Int) + 1)) = List.replicate 8 0 := by
    have e1 : (fun j : Nat => getG l ((j : Int) + 1) + getG (negG l) ((j : Int) + 1)) = fun _ => (0 : Int) := by
      funext j
      rw [getG_neg]; omega
    rw [e1]; rfl
  rw [e]
  unfold ofR
  rw [if_pos (by intro q hq; rw [List.eq_of_mem_replicate hq]; unfold In64; omega)]
  rfl
theorem neg_self {l : List Lg} (h : isG l = true) : decide (l = negG l) = decide ((l.length : Int) = 0) := by
  cases l with
  | nil => rfl
  | cons x r =>
    have hx := ((isG_iff _).1 h).1 x (by simp)
    rw [decide_eq_false, decide_eq_false]
    · simp; omega
    · intro e
      unfold negG at e
      rw [List.map_cons] at e
      injection e with e1 _
      have := congrArg Lg.qty e1
      simp only at this
      omega
noncomputable def withR (l : List Lg) (x : Lg) : Int × List Lg := if x.ins < 1 ∨ 8 < x.ins then (3, []) else if x.qty = 0 then addL [l] else addL [l, [x]]
theorem isG_one (x : Lg) : isG [x] = okG x := by unfold isG; simp [risingL]
theorem with_bad {l : List Lg} {x : Lg} (h : x.ins < 1 ∨ 8 < x.ins) : addL [l, [x]] = (3, []) := by
  rw [sum_two, if_neg]
  rintro ⟨_, h2⟩
  rw [isG_one] at h2
  unfold okG at h2
  simp only [Bool.and_eq_true, decide_eq_true_eq] at h2
  omega
set_option maxHeartbeats 4000000 in
set_option maxRecDepth 100000 in
theorem vequal_any (A A2 : Option Addr) (cap cap2 : Nat) (l m : List Lg) (w : World) (hl : l.length ≤ 1000000) (hs : Sl w A (rc Lg.cells l)) (hs2 : Sl w A2 (rc Lg.cells m)) :
    Calls Try.prog 73 #[.slice A l.length cap, .slice A2 m.length cap2] w fun e w' => e = .returned (.bool (decide (l = m))) ∧ Below w.heap.size w w' := by
  by_cases hlen : l.length = m.length
  · go_enter Try.func73, Try.ntmps73
    rw [← hlen]
    have HLM := Lib.hid hlen
    clear hlen
    go_wp2_with fail
    go_loopw [13] (fun i wr => ∃ k : Nat, k ≤ l.length ∧ i = .int .i64 k ∧ (∀ j, (h1 : j < l.length) → (h2 : j < m.length) → j < k → l[j] = m[j]) ∧ Below w.heap.size w wr) (fun i _ => l.length - (intOf i).toNat)
    case atStart => exact ⟨0, by omega, rfl, fun j _ _ h => absurd h (by omega), Below.refl _ _⟩
    case round =>
      obtain ⟨k, hk, rfl, hno, hB⟩ := hrel
      by_cases hlt : k < l.length
      · have hlt2 : k < m.length := by rw [← HLM.out]; exact hlt
        obtain ⟨b, o, rfl, hbw, hg⟩ := hs.lg hlt
        obtain ⟨b2, o2, rfl, hbw2, hg2⟩ := hs2.lg hlt2
        have hbr : b < wr.heap.size := Nat.lt_of_lt_of_le hbw hB.size
        have hbr2 : b2 < wr.heap.size := Nat.lt_of_lt_of_le hbw2 hB.size
        have hsz : w.heap.size ≤ wr.heap.size := hB.size
        have HK1 : Hid (∀ V, Below wr.heap.size wr V → l[k].at V b (o + k * 2)) := Lib.hid fun V hV =>
          Lg.at_keep hg fun i => (hV.cell (p := ⟨b, i, none⟩) hbr).trans (hB.cell (p := ⟨b, i, none⟩) hbw)
        have HK0 : Hid (∀ V, Below wr.heap.size wr V → m[k].at V b2 (o2 + k * 2)) := Lib.hid fun V hV =>
          Lg.at_keep hg2 fun i => (hV.cell (p := ⟨b2, i, none⟩) hbr2).trans (hB.cell (p := ⟨b2, i, none⟩) hbw2)
        have HX : Hid (if l[k] = m[k] then (∀ j, (h1 : j < l.length) → (h2 : j < m.length) → j < k + 1 → l[j] = m[j]) else decide (l = m) = false) := Lib.hid (by
          split
          · rename_i he
            intro j h1 h2 hj
            rcases Nat.lt_or_ge j k with h | h
            · exact hno j h1 h2 h
            · obtain rfl : j = k := by omega
              exact he
          · rename_i he
            rw [decide_eq_false]
            intro e
            subst e
            exact he rfl)
        have hlk : (k : Int) < (l.length : Int) := by omega
        clear hno hs hs2 hg hg2 hbw hbw2
        generalize l[k] = v at HK1 HX
        generalize m[k] = u at HK0 HX
        obtain ⟨f0, f1⟩ := v
        obtain ⟨e0, e1⟩ := u
        unfold Lg.at at HK1 HK0
        simp only at HK1 HK0
        by_cases d0 : f0 = e0
        · subst d0
          by_cases d1 : f1 = e1
          · subst d1
            have HN : Hid (∀ j, (h1 : j < l.length) → (h2 : j < m.length) → j < k + 1 → l[j] = m[j]) := Lib.hid (by have := HX.out; rw [if_pos rfl] at this; exact this)
            clear HX
            go_wp2_with fail
            refine wp_region_held_drew (S := (fun V => Below wr.heap.size wr V)) (by kernel_rfl) (by exact (Below.refl _ _).drew) (fun hHeld => ?_)
            refine wpAnyH_take (i := 0) (oi := { dst := some 16, op := _, type := _, pos := _, after := _, guard := _ }) (v := ?_) rfl (by kernel_rfl) (by kernel_rfl) (by kernel_rfl) (fun _ _ _ h => h) (Or.inl ⟨by rfl, ?_⟩) hHeld ?_
            rotate_left
            · (intro w hSw; obtain ⟨g0, g1⟩ := HK1.out _ hSw; obtain ⟨h0, h1⟩ := HK0.out _ hSw; go_simp <;> with_reducible rfl)
            try simp only [Act.put, List.setIfInBounds_toArray, List.set_cons_zero, List.set_cons_succ]
            refine wpAnyH_take (i := 1) (oi := { dst := some 17, op := _, type := _, pos := _, after := _, guard := _ }) (v := ?_) rfl (by kernel_rfl) (by kernel_rfl) (by kernel_rfl) (fun _ _ _ h => h) (Or.inl ⟨by rfl, ?_⟩) hHeld ?_
            rotate_left
            · (intro w hSw; obtain ⟨g0, g1⟩ := HK1.out _ hSw; obtain ⟨h0, h1⟩ := HK0.out _ hSw; go_simp <;> with_reducible rfl)
            try simp only [Act.put, List.setIfInBounds_toArray, List.set_cons_zero, List.set_cons_succ]
            refine wpAnyH_take (i := 2) (oi := { dst := some 18, op := _, type := _, pos := _, after := _, guard := _ }) (v := ?_) rfl (by kernel_rfl) (by kernel_rfl) (by kernel_rfl) (fun _ _ _ h => h) (Or.inl ⟨by rfl, ?_⟩) hHeld ?_
            rotate_left
            · (intro w hSw; obtain ⟨g0, g1⟩ := HK1.out _ hSw; obtain ⟨h0, h1⟩ := HK0.out _ hSw; go_simp <;> with_reducible rfl)
            try simp only [Act.put, List.setIfInBounds_toArray, List.set_cons_zero, List.set_cons_succ]
            refine wpAnyH_take (i := 3) (oi := { dst := some 19, op := _, type := _, pos := _, after := _, guard := _ }) (v := ?_) rfl (by kernel_rfl) (by kernel_rfl) (by kernel_rfl) (fun _ _ _ h => h) (Or.inl ⟨by rfl, ?_⟩) hHeld ?_
            rotate_left
            · (intro w hSw; obtain ⟨g0, g1⟩ := HK1.out _ hSw; obtain ⟨h0, h1⟩ := HK0.out _ hSw; go_simp <;> with_reducible rfl)
            try simp only [Act.put, List.setIfInBounds_toArray, List.set_cons_zero, List.set_cons_succ]
            refine wpAnyH_take (i := 4) (oi := { dst := some 20, op := _, type := _, pos := _, after := _, guard := _ }) (v := ?_) rfl (by kernel_rfl) (by kernel_rfl) (by kernel_rfl) (fun _ _ _ h => h) (Or.inl ⟨by rfl, ?_⟩) hHeld ?_
            rotate_left
            · (intro w hSw; obtain ⟨g0, g1⟩ := HK1.out _ hSw; obtain ⟨h0, h1⟩ := HK0.out _ hSw; go_simp <;> with_reducible rfl)
            try simp only [Act.put, List.setIfInBounds_toArray, List.set_cons_zero, List.set_cons_succ]
            refine wpAnyH_take (i := 5) (oi := { dst := some 21, op := _, type := _, pos := _, after := _, guard := _ }) (v := ?_) rfl (by kernel_rfl) (by kernel_rfl) (by kernel_rfl) (fun _ _ _ h => h) (Or.inl ⟨by rfl, ?_⟩) hHeld ?_
            rotate_left
            · (intro w hSw; obtain ⟨g0, g1⟩ := HK1.out _ hSw; obtain ⟨h0, h1⟩ := HK0.out _ hSw; go_simp <;> with_reducible rfl)
            try simp only [Act.put, List.setIfInBounds_toArray, List.set_cons_zero, List.set_cons_succ]
            refine wpAnyH_take (i := 6) (oi := { dst := some 22, op := _, type := _, pos := _, after := _, guard := _ }) (v := ?_) rfl (by kernel_rfl) (by kernel_rfl) (by kernel_rfl) (fun _ _ _ h => h) (Or.inl ⟨by rfl, ?_⟩) hHeld ?_
            rotate_left
            · (intro w hSw; obtain ⟨g0, g1⟩ := HK1.out _ hSw; obtain ⟨h0, h1⟩ := HK0.out _ hSw; go_simp <;> with_reducible rfl)
            try simp only [Act.put, List.setIfInBounds_toArray, List.set_cons_zero, List.set_cons_succ]
            refine wpAnyH_take (i := 7) (oi := { dst := some 23, op := _, type := _, pos := _, after := _, guard := _ }) (v := ?_) rfl (by kernel_rfl) (by kernel_rfl) (by kernel_rfl) (fun _ _ _ h => h) (Or.inl ⟨by rfl, ?_⟩) hHeld ?_
            rotate_left
            · (intro w hSw; obtain ⟨g0, g1⟩ := HK1.out _ hSw; obtain ⟨h0, h1⟩ := HK0.out _ hSw; go_simp <;> with_reducible rfl)
            try simp only [Act.put, List.setIfInBounds_toArray, List.set_cons_zero, List.set_cons_succ]
            refine wpAnyH_take (i := 8) (oi := { dst := some 24, op := _, type := _, pos := _, after := _, guard := _ }) (v := ?_) rfl (by kernel_rfl) (by kernel_rfl) (by kernel_rfl) (fun _ _ _ h => h) (Or.inl ⟨by rfl, ?_⟩) hHeld ?_
            rotate_left
            · (intro w hSw; obtain ⟨g0, g1⟩ := HK1.out _ hSw; obtain ⟨h0, h1⟩ := HK0.out _ hSw; go_simp <;> with_reducible rfl)
            try simp only [Act.put, List.setIfInBounds_toArray, List.set_cons_zero, List.set_cons_succ]
            refine wpAnyH_done (by kernel_rfl) ?_ _
            have hB2 := hB.trans (hHeld.mono hsz)
            go_wp2_with fail
            go_roundw
            case rel => exact ⟨k + 1, by omega, by go_num, HN.out, hB2⟩
            case measure => simp [intOf]; omega
          · have HN : Hid (decide (l = m) = false) := Lib.hid (by have := HX.out; rw [if_neg (by simp [d1])] at this; exact this)
            clear HX
            go_wp2_with fail
            refine wp_region_held_drew (S := (fun V => Below wr.heap.size wr V)) (by kernel_rfl) (by exact (Below.refl _ _).drew) (fun hHeld => ?_)
            refine wpAnyH_take (i := 0) (oi := { dst := some 16, op := _, type := _, pos := _, after := _, guard := _ }) (v := ?_) rfl (by kernel_rfl) (by kernel_rfl) (by kernel_rfl) (fun _ _ _ h => h) (Or.inl ⟨by rfl, ?_⟩) hHeld ?_
            rotate_left
            · (intro w hSw; obtain ⟨g0, g1⟩ := HK1.out _ hSw; obtain ⟨h0, h1⟩ := HK0.out _ hSw; go_simp <;> with_reducible rfl)
            try simp only [Act.put, List.setIfInBounds_toArray, List.set_cons_zero, List.set_cons_succ]
            refine wpAnyH_take (i := 1) (oi := { dst := some 17, op := _, type := _, pos := _, after := _, guard := _ }) (v := ?_) rfl (by kernel_rfl) (by kernel_rfl) (by kernel_rfl) (fun _ _ _ h => h) (Or.inl ⟨by rfl, ?_⟩) hHeld ?_
            rotate_left
            · (intro w hSw; obtain ⟨g0, g1⟩ := HK1.out _ hSw; obtain ⟨h0, h1⟩ := HK0.out _ hSw; go_simp <;> with_reducible rfl)
            try simp only [Act.put, List.setIfInBounds_toArray, List.set_cons_zero, List.set_cons_succ]
            refine wpAnyH_take (i := 2) (oi := { dst := some 18, op := _, type := _, pos := _, after := _, guard := _ }) (v := ?_) rfl (by kernel_rfl) (by kernel_rfl) (by kernel_rfl) (fun _ _ _ h => h) (Or.inl ⟨by rfl, ?_⟩) hHeld ?_
            rotate_left
            · (intro w hSw; obtain ⟨g0, g1⟩ := HK1.out _ hSw; obtain ⟨h0, h1⟩ := HK0.out _ hSw; go_simp <;> with_reducible rfl)
            try simp only [Act.put, List.setIfInBounds_toArray, List.set_cons_zero, List.set_cons_succ]
            refine wpAnyH_take (i := 3) (oi := { dst := some 19, op := _, type := _, pos := _, after := _, guard := _ }) (v := ?_) rfl (by kernel_rfl) (by kernel_rfl) (by kernel_rfl) (fun _ _ _ h => h) (Or.inl ⟨by rfl, ?_⟩) hHeld ?_
            rotate_left
            · (intro w hSw; obtain ⟨g0, g1⟩ := HK1.out _ hSw; obtain ⟨h0, h1⟩ := HK0.out _ hSw; go_simp <;> with_reducible rfl)
            try simp only [Act.put, List.setIfInBounds_toArray, List.set_cons_zero, List.set_cons_succ]
            refine wpAnyH_take (i := 4) (oi := { dst := some 20, op := _, type := _, pos := _, after := _, guard := _ }) (v := ?_) rfl (by kernel_rfl) (by kernel_rfl) (by kernel_rfl) (fun _ _ _ h => h) (Or.inl ⟨by rfl, ?_⟩) hHeld ?_
            rotate_left
            · (intro w hSw; obtain ⟨g0, g1⟩ := HK1.out _ hSw; obtain ⟨h0, h1⟩ := HK0.out _ hSw; go_simp <;> with_reducible rfl)
            try simp only [Act.put, List.setIfInBounds_toArray, List.set_cons_zero, List.set_cons_succ]
            refine wpAnyH_take (i := 5) (oi := { dst := some 21, op := _, type := _, pos := _, after := _, guard := _ }) (v := ?_) rfl (by kernel_rfl) (by kernel_rfl) (by kernel_rfl) (fun _ _ _ h => h) (Or.inl ⟨by rfl, ?_⟩) hHeld ?_
            rotate_left
            · (intro w hSw; obtain ⟨g0, g1⟩ := HK1.out _ hSw; obtain ⟨h0, h1⟩ := HK0.out _ hSw; go_simp <;> with_reducible rfl)
            try simp only [Act.put, List.setIfInBounds_toArray, List.set_cons_zero, List.set_cons_succ]
            refine wpAnyH_take (i := 6) (oi := { dst := some 22, op := _, type := _, pos := _, after := _, guard := _ }) (v := ?_) rfl (by kernel_rfl) (by kernel_rfl) (by kernel_rfl) (fun _ _ _ h => h) (Or.inl ⟨by rfl, ?_⟩) hHeld ?_
            rotate_left
            · (intro w hSw; obtain ⟨g0, g1⟩ := HK1.out _ hSw; obtain ⟨h0, h1⟩ := HK0.out _ hSw; go_simp <;> with_reducible rfl)
            try simp only [Act.put, List.setIfInBounds_toArray, List.set_cons_zero, List.set_cons_succ]
            refine wpAnyH_take (i := 7) (oi := { dst := some 23, op := _, type := _, pos := _, after := _, guard := _ }) (v := ?_) rfl (by kernel_rfl) (by kernel_rfl) (by kernel_rfl) (fun _ _ _ h => h) (Or.inl ⟨by rfl, ?_⟩) hHeld ?_
            rotate_left
            · (intro w hSw; obtain ⟨g0, g1⟩ := HK1.out _ hSw; obtain ⟨h0, h1⟩ := HK0.out _ hSw; go_simp <;> with_reducible rfl)
            try simp only [Act.put, List.setIfInBounds_toArray, List.set_cons_zero, List.set_cons_succ]
            refine wpAnyH_take (i := 8) (oi := { dst := some 24, op := _, type := _, pos := _, after := _, guard := _ }) (v := ?_) rfl (by kernel_rfl) (by kernel_rfl) (by kernel_rfl) (fun _ _ _ h => h) (Or.inl ⟨by rfl, ?_⟩) hHeld ?_
            rotate_left
            · (intro w hSw; obtain ⟨g0, g1⟩ := HK1.out _ hSw; obtain ⟨h0, h1⟩ := HK0.out _ hSw; go_simp <;> with_reducible rfl)
            try simp only [Act.put, List.setIfInBounds_toArray, List.set_cons_zero, List.set_cons_succ]
            refine wpAnyH_done (by kernel_rfl) ?_ _
            have hB2 := hB.trans (hHeld.mono hsz)
            go_wp2_with fail
            go_ret
            exact ⟨retB HN.out.symm, hB2⟩
        · have HN : Hid (decide (l = m) = false) := Lib.hid (by have := HX.out; rw [if_neg (by simp [d0])] at this; exact this)
          clear HX
          go_wp2_with fail
          refine wp_region_held_drew (S := (fun V => Below wr.heap.size wr V)) (by kernel_rfl) (by exact (Below.refl _ _).drew) (fun hHeld => ?_)
          refine wpAnyH_take (i := 0) (oi := { dst := some 16, op := _, type := _, pos := _, after := _, guard := _ }) (v := ?_) rfl (by kernel_rfl) (by kernel_rfl) (by kernel_rfl) (fun _ _ _ h => h) (Or.inl ⟨by rfl, ?_⟩) hHeld ?_
          rotate_left
          · (intro w hSw; obtain ⟨g0, g1⟩ := HK1.out _ hSw; obtain ⟨h0, h1⟩ := HK0.out _ hSw; go_simp <;> with_reducible rfl)
          try simp only [Act.put, List.setIfInBounds_toArray, List.set_cons_zero, List.set_cons_succ]
          refine wpAnyH_take (i := 1) (oi := { dst := some 17, op := _, type := _, pos := _, after := _, guard := _ }) (v := ?_) rfl (by kernel_rfl) (by kernel_rfl) (by kernel_rfl) (fun _ _ _ h => h) (Or.inl ⟨by rfl, ?_⟩) hHeld ?_
          rotate_left
          · (intro w hSw; obtain ⟨g0, g1⟩ := HK1.out _ hSw; obtain ⟨h0, h1⟩ := HK0.out _ hSw; go_simp <;> with_reducible rfl)
          try simp only [Act.put, List.setIfInBounds_toArray, List.set_cons_zero, List.set_cons_succ]
          refine wpAnyH_take (i := 2) (oi := { dst := some 18, op := _, type := _, pos := _, after := _, guard := _ }) (v := ?_) rfl (by kernel_rfl) (by kernel_rfl) (by kernel_rfl) (fun _ _ _ h => h) (Or.inl ⟨by rfl, ?_⟩) hHeld ?_
          rotate_left
          · (intro w hSw; obtain ⟨g0, g1⟩ := HK1.out _ hSw; obtain ⟨h0, h1⟩ := HK0.out _ hSw; go_simp <;> with_reducible rfl)
          try simp only [Act.put, List.setIfInBounds_toArray, List.set_cons_zero, List.set_cons_succ]
          refine wpAnyH_take (i := 3) (oi := { dst := some 19, op := _, type := _, pos := _, after := _, guard := _ }) (v := ?_) rfl (by kernel_rfl) (by kernel_rfl) (by kernel_rfl) (fun _ _ _ h => h) (Or.inl ⟨by rfl, ?_⟩) hHeld ?_
          rotate_left
          · (intro w hSw; obtain ⟨g0, g1⟩ := HK1.out _ hSw; obtain ⟨h0, h1⟩ := HK0.out _ hSw; go_simp <;> with_reducible rfl)
          try simp only [Act.put, List.setIfInBounds_toArray, List.set_cons_zero, List.set_cons_succ]
          refine wpAnyH_take (i := 4) (oi := { dst := some 20, op := _, type := _, pos := _, after := _, guard := _ }) (v := ?_) rfl (by kernel_rfl) (by kernel_rfl) (by kernel_rfl) (fun _ _ _ h => h) (Or.inl ⟨by rfl, ?_⟩) hHeld ?_
          rotate_left
          · (intro w hSw; obtain ⟨g0, g1⟩ := HK1.out _ hSw; obtain ⟨h0, h1⟩ := HK0.out _ hSw; go_simp <;> with_reducible rfl)
          try simp only [Act.put, List.setIfInBounds_toArray, List.set_cons_zero, List.set_cons_succ]
          refine wpAnyH_take (i := 5) (oi := { dst := some 21, op := _, type := _, pos := _, after := _, guard := _ }) (v := ?_) rfl (by kernel_rfl) (by kernel_rfl) (by kernel_rfl) (fun _ _ _ h => h) (Or.inl ⟨by rfl, ?_⟩) hHeld ?_
          rotate_left
          · (intro w hSw; obtain ⟨g0, g1⟩ := HK1.out _ hSw; obtain ⟨h0, h1⟩ := HK0.out _ hSw; go_simp <;> with_reducible rfl)
          try simp only [Act.put, List.setIfInBounds_toArray, List.set_cons_zero, List.set_cons_succ]
          refine wpAnyH_take (i := 6) (oi := { dst := some 22, op := _, type := _, pos := _, after := _, guard := _ }) (v := ?_) rfl (by kernel_rfl) (by kernel_rfl) (by kernel_rfl) (fun _ _ _ h => h) (Or.inl ⟨by rfl, ?_⟩) hHeld ?_
          rotate_left
          · (intro w hSw; obtain ⟨g0, g1⟩ := HK1.out _ hSw; obtain ⟨h0, h1⟩ := HK0.out _ hSw; go_simp <;> with_reducible rfl)
          try simp only [Act.put, List.setIfInBounds_toArray, List.set_cons_zero, List.set_cons_succ]
          refine wpAnyH_take (i := 7) (oi := { dst := some 23, op := _, type := _, pos := _, after := _, guard := _ }) (v := ?_) rfl (by kernel_rfl) (by kernel_rfl) (by kernel_rfl) (fun _ _ _ h => h) (Or.inl ⟨by rfl, ?_⟩) hHeld ?_
          rotate_left
          · (intro w hSw; obtain ⟨g0, g1⟩ := HK1.out _ hSw; obtain ⟨h0, h1⟩ := HK0.out _ hSw; go_simp <;> with_reducible rfl)
          try simp only [Act.put, List.setIfInBounds_toArray, List.set_cons_zero, List.set_cons_succ]
          refine wpAnyH_take (i := 8) (oi := { dst := some 24, op := _, type := _, pos := _, after := _, guard := _ }) (v := ?_) rfl (by kernel_rfl) (by kernel_rfl) (by kernel_rfl) (fun _ _ _ h => h) (Or.inl ⟨by rfl, ?_⟩) hHeld ?_
          rotate_left
          · (intro w hSw; obtain ⟨g0, g1⟩ := HK1.out _ hSw; obtain ⟨h0, h1⟩ := HK0.out _ hSw; go_simp <;> with_reducible rfl)
          try simp only [Act.put, List.setIfInBounds_toArray, List.set_cons_zero, List.set_cons_succ]
          refine wpAnyH_done (by kernel_rfl) ?_ _
          have hB2 := hB.trans (hHeld.mono hsz)
          go_wp2_with fail
          go_ret
          exact ⟨retB HN.out.symm, hB2⟩
      · have HE := Lib.hid (show decide (l = m) = true from decide_eq_true (list_eq_ofG HLM.out fun j h1 h2 => hno j h1 h2 (by omega)))
        clear hno
        go_wp2_with fail
        go_ret
        exact ⟨retB HE.out.symm, hB⟩
  · have HE := Lib.hid (show decide (l = m) = false from decide_eq_false fun e => hlen (by rw [e]))
    have hlen2 : ¬ ((l.length : Int) = (m.length : Int)) := by omega
    have hlen3 : ((l.length : Int) != (m.length : Int)) = true := by simpa using hlen2
    clear hlen
    go_enter Try.func73, Try.ntmps73
    go_wp2_with fail
    go_ret
    exact ⟨retB HE.out.symm, Below.refl _ _⟩

theorem vequal_any_self (A A2 : Option Addr) (cap cap2 : Nat) (l : List Lg) (w : World) (hl : l.length ≤ 1000000) (hs : Sl w A (rc Lg.cells l)) (hs2 : Sl w A2 (rc Lg.cells l)) :
    Calls Try.prog 73 #[.slice A l.length cap, .slice A2 l.length cap2] w fun e w' => e = .returned (.bool true) ∧ Below w.heap.size w w' :=
  (vequal_any A A2 cap cap2 l l w hl hs hs2).mono fun _ _ ⟨he, hw⟩ => ⟨by rw [he, decide_eq_true rfl], hw⟩

set_option maxHeartbeats 1000000 in
theorem vsame_any (A A2 : Option Addr) (cap cap2 : Nat) (l m : List Lg) (w : World) (hl : l.length ≤ 1000000) (hs : Sl w A (rc Lg.cells l)) (hs2 : Sl w A2 (rc Lg.cells m)) :
    Calls Try.prog 28 #[.slice A l.length cap, .slice A2 m.length cap2] w fun e w' => e = .returned (.bool (decide (l = m))) ∧ Below w.heap.size w w' := by
  have HS := vequal_any A A2 cap cap2 l m w hl hs hs2
  go_enter Try.func28, Try.ntmps28
  go_wp2_with fail
  refine HS.mono ?_
  rintro e w1 ⟨rfl, hb⟩
  go_wp2_with fail
  go_ret
  exact ⟨rfl, hb⟩
/-- rows of one or two -/
theorem rows_1 {w : World} {A1 : Option Addr} {c1 : Nat} {D : List Lg} (h1 : Sl w A1 (rc Lg.cells D)) : RowsOk w Lg.cells [(⟨A1, c1, D⟩ : RowS Lg)] := fun s hs => by
  rcases List.mem_cons.1 hs with rfl | hs
  · exact h1
  · cases hs
theorem rows_2 {w : World} {A1 A2 : Option Addr} {c1 c2 : Nat} {D R : List Lg} (h1 : Sl w A1 (rc Lg.cells D)) (h2 : Sl w A2 (rc Lg.cells R)) : RowsOk w Lg.cells [(⟨A1, c1, D⟩ : RowS Lg), ⟨A2, c2, R⟩] := fun s hs => by
  rcases List.mem_cons.1 hs with rfl | hs
  · exact h1
  · rcases List.mem_cons.1 hs with rfl | hs
    · exact h2
    · cases hs
theorem vadd_2 (a b : List Lg) (ha : a.length ≤ 400000) (hb : b.length ≤ 400000) (a6 : ∀ y ∈ a, In64 y.qty) (b6 : ∀ y ∈ b, In64 y.qty) (A A1 A2 : Option Addr) (c1 c2 : Nat) (w : World) (h : Sl w A (rc RowS.cells [(⟨A1, c1, a⟩ : RowS Lg), ⟨A2, c2, b⟩])) (h1 : Sl w A1 (rc Lg.cells a)) (h2 : Sl w A2 (rc Lg.cells b)) :
    Calls Try.prog 18 #[.slice A 2 2] w fun e w' => GRes w.heap.size w' e (addL [a, b]) ∧ Below w.heap.size w w' := by
  have e := vadd_any A 2 [(⟨A1, c1, a⟩ : RowS Lg), ⟨A2, c2, b⟩] w (by simp) (by simp [RowS.all]; omega) (by simp only [RowS.all, List.map_cons, List.map_nil, List.flatten_cons, List.flatten_nil, List.append_nil]; intro y hy; rcases List.mem_append.1 hy with hy | hy; exact a6 y hy; exact b6 y hy) h (rows_2 h1 h2)
  rw [addR_L] at e
  exact e
theorem vadd_1 (a : List Lg) (ha : a.length ≤ 400000) (a6 : ∀ y ∈ a, In64 y.qty) (A A1 : Option Addr) (c1 : Nat) (w : World) (h : Sl w A (rc RowS.cells [(⟨A1, c1, a⟩ : RowS Lg)])) (h1 : Sl w A1 (rc Lg.cells a)) :
    Calls Try.prog 18 #[.slice A 1 1] w fun e w' => GRes w.heap.size w' e (addL [a]) ∧ Below w.heap.size w w' := by
  have e := vadd_any A 1 [(⟨A1, c1, a⟩ : RowS Lg)] w (by simp) (by simp [RowS.all]; omega) (by simp only [RowS.all, List.map_cons, List.map_nil, List.flatten_cons, List.flatten_nil, List.append_nil]; exact a6) h (rows_1 h1)
  rw [addR_L] at e
  exact e
theorem radd_2 (a b : List Lg) (ha : a.length ≤ 400000) (hb : b.length ≤ 400000) (a6 : ∀ y ∈ a, In64 y.qty) (b6 : ∀ y ∈ b, In64 y.qty) (A A1 A2 : Option Addr) (c1 c2 : Nat) (w : World) (h : Sl w A (rc RowS.cells [(⟨A1, c1, a⟩ : RowS Lg), ⟨A2, c2, b⟩])) (h1 : Sl w A1 (rc Lg.cells a)) (h2 : Sl w A2 (rc Lg.cells b)) :
    Calls Try.prog 19 #[.slice A 2 2] w fun e w' => GRes w.heap.size w' e (addL [a, b]) ∧ Below w.heap.size w w' := by
  have e := radd_any A 2 [(⟨A1, c1, a⟩ : RowS Lg), ⟨A2, c2, b⟩] w (by simp) (fun s hs => by rcases List.mem_cons.1 hs with rfl | hs; (simp only; omega); rcases List.mem_cons.1 hs with rfl | hs; (simp only; omega); cases hs)
    (fun s hs => by rcases List.mem_cons.1 hs with rfl | hs; exact a6; rcases List.mem_cons.1 hs with rfl | hs; exact b6; cases hs) h (rows_2 h1 h2)
  rw [addR_L] at e
  exact e
theorem radd_1 (a : List Lg) (ha : a.length ≤ 400000) (a6 : ∀ y ∈ a, In64 y.qty) (A A1 : Option Addr) (c1 : Nat) (w : World) (h : Sl w A (rc RowS.cells [(⟨A1, c1, a⟩ : RowS Lg)])) (h1 : Sl w A1 (rc Lg.cells a)) :
    Calls Try.prog 19 #[.slice A 1 1] w fun e w' => GRes w.heap.size w' e (addL [a]) ∧ Below w.heap.size w w' := by
  have e := radd_any A 1 [(⟨A1, c1, a⟩ : RowS Lg)] w (by simp) (fun s hs => by rcases List.mem_cons.1 hs with rfl | hs; (simp only; omega); cases hs)
    (fun s hs => by rcases List.mem_cons.1 hs with rfl | hs; exact a6; cases hs) h (rows_1 h1)
  rw [addR_L] at e
  exact e

set_option maxHeartbeats 8000000 in
set_option maxRecDepth 100000 in
theorem vwith_any (A : Option Addr) (cap : Nat) (l : List Lg) (x : Lg) (w : World) (hl : l.length ≤ 400000) (h6 : ∀ y ∈ l, In64 y.qty) (hx6 : In64 x.qty) (hs : Sl w A (rc Lg.cells l)) :
    Calls Try.prog 27 #[.slice A l.length cap, x.val] w fun e w' => GRes w.heap.size w' e (withR l x) ∧ Below w.heap.size w w' := by
  have HA1 := Lib.hid (fun A A1 c1 V h h1 => vadd_1 l hl h6 A A1 c1 V h h1)
  have HA2 := Lib.hid (fun A A1 A2 c1 c2 V h h1 h2 => vadd_2 l [x] hl (by simp) h6 (by intro y hy; simp only [List.mem_singleton] at hy; subst hy; exact hx6) A A1 A2 c1 c2 V h h1 h2)
  have hW : (x.ins < 1 ∧ withR l x = (3, [])) ∨ (¬ x.ins < 1 ∧ 8 < x.ins ∧ withR l x = (3, [])) ∨ (¬ x.ins < 1 ∧ ¬ 8 < x.ins ∧ (x.qty == 0) = true ∧ withR l x = addL [l]) ∨ (¬ x.ins < 1 ∧ ¬ 8 < x.ins ∧ (x.qty == 0) = false ∧ withR l x = addL [l, [x]]) := by
    unfold withR
    by_cases h1 : x.ins < 1
    · left; exact ⟨h1, if_pos (.inl h1)⟩
    by_cases h2 : 8 < x.ins
    · right; left; exact ⟨h1, h2, if_pos (.inr h2)⟩
    rw [if_neg (by omega)]
    by_cases h3 : x.qty = 0
    · right; right; left; exact ⟨h1, h2, by simpa using h3, if_pos h3⟩
    · right; right; right; exact ⟨h1, h2, by simpa using h3, if_neg h3⟩
  have hB := since_alloc (Below.refl _ w) (.cells x.cells.toArray 36)
  have hZ := Bk.new w x.cells.toArray 36
  have hs1 := hs.alloc (.cells x.cells.toArray 36)
  generalize withR l x = RR at *
  clear hs h6 hx6
  obtain ⟨xi, xq⟩ := x
  unfold Lg.val
  simp only [Lg.cells] at hB hZ hs1 HA2
  simp only at hW
  rcases hW with ⟨h1, rfl⟩ | ⟨h1, h2, rfl⟩ | ⟨h1, h2, h3, rfl⟩ | ⟨h1, h2, h3, rfl⟩
  · go_enter Try.func27, Try.ntmps27
    go_wp2_with fail
    go_ret2
    exact ⟨GRes.nil _ _ _, hB⟩
  · go_enter Try.func27, Try.ntmps27
    go_wp2_with fail
    go_ret2
    exact ⟨GRes.nil _ _ _, hB⟩
  · generalize addL [l] = R at *
    go_enter Try.func27, Try.ntmps27
    go_upto_region 1 with fail
    generalize hWW : w.alloc (.cells #[.int .i64 xi, .int .i64 xq] 36) = W at *
    clear hWW
    obtain ⟨lk, ck⟩ := id hZ
    have k0 := ck 0
    have k1 := ck 1
    simp at k0 k1
    clear ck
    go_wp2_with fail
    have hH := Sl.new_ W (rc RowS.cells [(⟨A, cap, l⟩ : RowS Lg)]) 25
    refine (HA1.out _ _ _ _ hH (hs1.alloc _)).mono ?_
    rintro e w1 ⟨⟨A5, c5, rfl, own5⟩, hb⟩
    have hb' := since_step (since_alloc (Below.refl _ W) (.cells #[.slice A l.length cap] 25)) hb
    have hB1 := since_step hB hb'
    have own5 := own_base own5 (base' := w.heap.size) (by rw [World.size_alloc]; have := hB.size; omega)
    go_wp2_with fail
    go_ret2
    exact ⟨⟨A5, c5, rfl, own5⟩, hB1⟩
  · generalize addL [l, [⟨xi, xq⟩]] = R at *
    go_enter Try.func27, Try.ntmps27
    go_upto_region 1 with fail
    generalize hWW : w.alloc (.cells #[.int .i64 xi, .int .i64 xq] 36) = W at *
    clear hWW
    obtain ⟨lk, ck⟩ := id hZ
    have k0 := ck 0
    have k1 := ck 1
    simp at k0 k1
    clear ck
    go_upto_region 5 with fail
    go_wp2_with fail
    have hX1 := Sl.new_ W (rc Lg.cells [(⟨xi, xq⟩ : Lg)]) 36
    have hB0 := since_alloc (Below.refl _ W) (.cells #[.int .i64 xi, .int .i64 xq] 36)
    have hs2 := hs1.alloc (.cells #[.int .i64 xi, .int .i64 xq] 36)
    have hH := Sl.new1 W (.cells #[.int .i64 xi, .int .i64 xq] 36) (rc RowS.cells [(⟨A, cap, l⟩ : RowS Lg), ⟨some ⟨W.heap.size, 0, none⟩, 1, [⟨xi, xq⟩]⟩]) 25
    refine (HA2.out _ _ _ _ _ _ hH (hs2.alloc _) (hX1.alloc _)).mono ?_
    rintro e w1 ⟨⟨A5, c5, rfl, own5⟩, hb⟩
    have hb' := since_step (since_alloc hB0 (.cells #[.slice A l.length cap, .slice (some ⟨W.heap.size, 0, none⟩) 1 1] 25)) hb
    have hB1 := since_step hB hb'
    have own5 := own_base own5 (base' := w.heap.size) (by rw [World.size_alloc, World.size_alloc]; have := hB.size; omega)
    go_wp2_with fail
    go_ret2
    exact ⟨⟨A5, c5, rfl, own5⟩, hB1⟩

def few12 (s : RowS Lg) : RowS Lg := ⟨s.A, s.c, s.l.take 12⟩
set_option maxHeartbeats 8000000 in
set_option maxRecDepth 100000 in
theorem several_any (A : Option Addr) (cap : Nat) (S : List (RowS Lg)) (w : World) (hl : S.length ≤ maxLen) (hs : Sl w A (rc RowS.cells S)) (hok : ∀ r ∈ S, r.l.length ≤ r.c ∧ r.c ≤ maxLen ∧ Sl w r.A (rc Lg.cells r.l)) :
    Calls Try.prog 13 #[.slice A S.length cap] w fun e w' => (∃ A' c', e = .returned (.slice A' ((S.take 10).map few12).length c') ∧ w'.ownsRow w.heap.size 25 1 (.slice A' ((S.take 10).map few12).length c') ((S.take 10).map few12).length (rc RowS.cells ((S.take 10).map few12))) ∧ Below w.heap.size w w' := by
  have HST : Hid (∀ k, (h : k < S.length) → ∀ V, Below w.heap.size w V → S[k].l.length ≤ S[k].c ∧ S[k].c ≤ maxLen ∧ Sl V S[k].A (rc Lg.cells S[k].l)) := Lib.hid fun k h V hV => by
    obtain ⟨h1, h2, h3⟩ := hok _ (List.getElem_mem h)
    exact ⟨h1, h2, h3.below hV⟩
  have HTT : Hid (∀ k, (h : k < S.length) → (S.take (k + 1)).map few12 = (S.take k).map few12 ++ [few12 S[k]]) := Lib.hid fun k h => by
    rw [List.take_succ_eq_append_getElem h, List.map_append]; rfl
  have HTE : Hid (∀ k, k ≤ S.length → k ≤ 10 → (¬ k < S.length ∨ ¬ k < 10) → (S.take k).map few12 = (S.take 10).map few12) := Lib.hid fun k h1 h2 h3 => by
    rcases h3 with h3 | h3
    · obtain rfl : k = S.length := by omega
      rw [List.take_length, List.take_of_length_le (by omega)]
    · obtain rfl : k = 10 := by omega
      rfl
  obtain ⟨TT, hTT⟩ : ∃ TT, (S.take 10).map few12 = TT := ⟨_, rfl⟩
  rw [hTT] at HTE ⊢
  clear hok hTT
  go_enter Try.func13, Try.ntmps13
  go_wp2_with fail
  go_loopw [3, 4] (fun fv i wr => ∃ (k : Nat) (A2 : Option Addr) (c2 : Nat), k ≤ S.length ∧ k ≤ 10 ∧ i = .int .i64 k ∧ fv = .slice A2 ((S.take k).map few12).length c2 ∧ wr.ownsRow w.heap.size 25 1 (.slice A2 ((S.take k).map few12).length c2) ((S.take k).map few12).length (rc RowS.cells ((S.take k).map few12)) ∧ Below w.heap.size w wr) (fun _ i _ => S.length - (intOf i).toNat)
  case atStart => exact ⟨0, none, 0, by omega, by omega, rfl, rfl, own_nil _ _ _, Below.refl _ _⟩
  case round =>
    obtain ⟨k, A2, c2, hk, hk5, rfl, rfl, own2, hBr⟩ := hrel
    by_cases hlt : k < S.length ∧ k < 10
    · obtain ⟨hlt, hlt5⟩ := hlt
      have hlk : (k : Int) < (S.length : Int) := by omega
      have hlk5 : (k : Int) < 10 := by omega
      obtain ⟨b, o, rfl, hbw, hg⟩ := (hs.below hBr).rowS hlt
      obtain ⟨i1, i2, i3⟩ := HST.out k hlt wr hBr
      have HT := Lib.hid (HTT.out k hlt)
      have hlen : ((S.take k).map few12).length ≤ 10 := by simp; omega
      obtain ⟨s, hs1⟩ : ∃ s, S[k] = s := ⟨_, rfl⟩
      obtain ⟨R, hR⟩ : ∃ R, (S.take k).map few12 = R := ⟨_, rfl⟩
      rw [hs1] at hg i1 i2 i3 HT
      rw [hR] at own2 hlen HT ⊢
      have HFK := few11_any s.A s.c s.l wr i1 i2 i3
      obtain ⟨K, hK⟩ : ∃ K, s.l.take 12 = K := ⟨_, rfl⟩
      rw [show few12 s = ⟨s.A, s.c, K⟩ by unfold few12; rw [hK]] at HT
      rw [hK] at HFK
      have HFK := Lib.hid HFK
      have hsz := hBr.size
      clear hs1 hR i1 i2 i3 hK
      go_wp2_with fail
      refine HFK.out.mono ?_
      rintro e v1 ⟨rfl, hb⟩
      have hB1 := since_step hBr hb
      have own2 := own_below own2 hb
      have hsz1 := hB1.size
      clear hb hbw hg
      go_wp2_with (first
        | (at_builtin; refine wpList_app rfl (.tmp 15) (.tmp 21) rfl ELgL rfl rfl (own2.alloc _) (m := 1) (news := [.slice s.A K.length s.c]) rfl (Sl.new_ _ _ _) (fun u hu => by simp only [List.mem_cons, List.not_mem_nil, or_false] at hu; subst hu; rfl) (by unfold maxLen; omega) (by omega) (by simp only [World.size_alloc]; omega) ?_; intro A3 c3' w3 own3 hg3 hb3)
        | fail)
      have hB3 := (since_alloc hB1 (.cells #[.slice s.A K.length s.c] 25)).trans hb3
      go_roundw
      case rel => exact ⟨k + 1, A3, c3', by omega, by omega, by go_num, by rw [HT.out, List.length_append]; rfl, by rw [HT.out, List.length_append, rc_append]; simpa [rc, RowS.cells] using own3, hB3⟩
      case measure => simp [intOf]; omega
    · have hend : ¬ ((k : Int) < (S.length : Int)) ∨ ((k : Int) < (S.length : Int) ∧ ¬ ((k : Int) < 10)) := by omega
      have hTE := HTE.out k hk hk5 (by omega)
      rw [hTE] at own2 ⊢
      clear hTE hlt
      rcases hend with h1 | ⟨h1, h2⟩
      all_goals
        go_wp2_with fail
        go_ret
        exact ⟨⟨A2, c2, rfl, own2⟩, hBr⟩

theorem lives_sum : addL [[⟨1, 5⟩, ⟨2, -3⟩], [⟨1, -5⟩]] = (0, [⟨2, -3⟩]) := by
  rw [sum_two, if_pos (by decide)]
  have e : ((List.range 8).map fun j : Nat => getG [⟨1, 5⟩, ⟨2, -3⟩] ((j : Int) + 1) + getG [⟨1, -5⟩] ((j : Int) + 1)) = [0, -3, 0, 0, 0, 0, 0, 0] := by decide
  rw [e]
  unfold ofR
  rw [if_pos (by decide)]
  rfl
set_option maxHeartbeats 4000000 in
set_option maxRecDepth 100000 in
theorem lives11_any (w : World) : Calls Try.prog 21 #[] w fun e w' => e = .returned (.bool true) ∧ Below w.heap.size w w' := by
  have HA := Lib.hid (fun A A1 A2 c1 c2 V h h1 h2 => vadd_2 [⟨1, 5⟩, ⟨2, -3⟩] [⟨1, -5⟩] (by decide) (by decide) (by decide) (by decide) A A1 A2 c1 c2 V h h1 h2)
  rw [lives_sum] at HA
  have HSA := Lib.hid (fun A c A2 W h1 h2 => rvsame_any_self A A2 c 1 [⟨2, -3⟩] W (by decide) h1 h2)
  have HIS := Lib.hid (fun A c W h => vis_any A c [⟨2, -3⟩] W (by decide) h)
  rw [show isG [⟨2, -3⟩] = true by decide] at HIS
  unfold GRes at HA
  simp only [List.length_cons, List.length_nil] at HA HSA HIS
  have s1 := Sl.new_ w (rc Lg.cells [⟨1, 5⟩, ⟨2, -3⟩]) 36
  have hB := since_alloc (Below.refl _ w) (.cells #[.int .i64 1, .int .i64 5, .int .i64 2, .int .i64 (-3)] 36)
  go_enter Try.func21, Try.ntmps21
  go_wp2_with fail
  have h2 := Sl.new1 w (.cells #[.int .i64 1, .int .i64 5, .int .i64 2, .int .i64 (-3)] 36) (rc Lg.cells [⟨1, -5⟩]) 36
  have h3 := Sl.new1 (w.alloc (.cells #[.int .i64 1, .int .i64 5, .int .i64 2, .int .i64 (-3)] 36)) (.cells #[.int .i64 1, .int .i64 (-5)] 36) (rc RowS.cells [(⟨some ⟨w.heap.size, 0, none⟩, 2, [⟨1, 5⟩, ⟨2, -3⟩]⟩ : RowS Lg), ⟨some ⟨w.heap.size + 1, 0, none⟩, 1, [⟨1, -5⟩]⟩]) 25
  rw [World.size_alloc] at h3
  have hB2 := since_alloc (since_alloc hB (.cells #[.int .i64 1, .int .i64 (-5)] 36)) (.cells #[.slice (some ⟨w.heap.size, 0, none⟩) 2 2, .slice (some ⟨w.heap.size + 1, 0, none⟩) 1 1] 25)
  refine (HA.out _ _ _ _ _ _ h3 ((s1.alloc _).alloc _) (h2.alloc _)).mono ?_
  rintro e w1 ⟨⟨A1, c1, rfl, own1⟩, hb⟩
  have hB3 := since_step hB2 hb
  have hs := Sl.of_own own1
  clear own1 hb hB2 h2 h3 s1
  go_wp2_with fail
  refine (HSA.out _ _ _ _ (hs.alloc _) (Sl.new_ w1 (rc Lg.cells [⟨2, -3⟩]) 36)).mono ?_
  rintro e w2 ⟨rfl, hb⟩
  have hb' := since_step (since_alloc (Below.refl _ w1) (.cells #[.int .i64 2, .int .i64 (-3)] 36)) hb
  have hB4 := since_step hB3 hb'
  have hs := hs.below hb'
  clear hb hb'
  go_wp2_with fail
  refine (HIS.out _ _ _ hs).mono ?_
  rintro e w3 ⟨rfl, hb⟩
  have hB5 := since_step hB4 hb
  go_wp2_with fail
  go_ret
  exact ⟨rfl, hB5⟩
end Go.Proofs.Ytfagpdnckmaomaa
