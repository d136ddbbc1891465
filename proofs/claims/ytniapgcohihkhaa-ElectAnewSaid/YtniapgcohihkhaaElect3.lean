/-
  Layer 16, third part: Drop, Find, Same (laid by gen_elect3.py).
-/
import Derived.Test.YtniapgcohihkhaaElect2
namespace Go.Proofs.Ytniapgcohihkhaa
open Go.ChangeShapes Go.WideShapes Go.ChangeAt Go.RowKit
set_option linter.unusedVariables false
set_option linter.unusedSimpArgs false

def dropC (l : List Ch) (a c : Int) : List Ch := l.filter fun g => !ofC a c g
def findC (l : List Ch) (a c : Int) : Ch := pickL (ofC a c) Ch.zero l
def hasC (l : List Ch) (a c : Int) : Bool := (l.find? (ofC a c)).isSome
/-- a row in memory of the call's own -/
def OwnC (B : Nat) (w' : World) (e : Ending) (l : List Ch) : Prop := ∃ A' c', e = .returned (.slice A' l.length c') ∧ w'.ownsRow B 54 5 (.slice A' l.length c') l.length (rc Ch.cells l)

set_option maxHeartbeats 1000000 in
theorem edrop_any (A : Option Addr) (cap : Nat) (l : List Ch) (a c : Int) (w : World) (hl : l.length ≤ 1000000) (hs : Sl w A (rc Ch.cells l)) :
    Calls Try.prog 28 #[.slice A l.length cap, unitV a c] w fun e w' => OwnC w.heap.size w' e (dropC l a c) ∧ Below w.heap.size w w' := by
  unfold unitV
  have hB := since_alloc (Below.refl _ w) (.cells #[.int .i64 a, .int .i64 c] 44)
  go_enter Try.func28, Try.ntmps28
  go_wp2_with fail
  refine (of_any a c _).mono ?_
  rintro e w1 ⟨⟨b, rfl, hU⟩, hb1⟩
  have hs1 := (hs.alloc _).below hb1
  have hB1 := since_step hB hb1
  clear hb1 hs
  go_wp2_with fail
  refine (drop_ch A cap l 74 #[.pointer (some ⟨b, 0, none⟩)] (ofC a c) _ hl hs1 ent_of1 (tells_of a c b _ hU)).mono ?_
  rintro e w2 ⟨⟨A2, c2, rfl, hown⟩, hb2⟩
  have hB2 := since_step hB1 hb2
  have hown2 := own_base hown hB1.size
  go_wp2_with fail
  go_ret
  exact ⟨⟨A2, c2, rfl, hown2⟩, hB2⟩

set_option maxHeartbeats 1000000 in
theorem efind_any (A : Option Addr) (cap : Nat) (l : List Ch) (a c : Int) (w : World) (hl : l.length ≤ 1000000) (hs : Sl w A (rc Ch.cells l)) :
    Calls Try.prog 34 #[.slice A l.length cap, unitV a c] w fun e w' => e = .returned (.tuple #[(findC l a c).val, .bool (hasC l a c)]) ∧ Below w.heap.size w w' := by
  unfold unitV
  have hB := since_alloc (since_alloc (Below.refl _ w) (.cells #[.int .i64 a, .int .i64 c] 44)) (.cells #[.int .i64 0, .int .i64 0, .int .i64 0, .int .i64 0, .bool false] 54)
  have Bz := Bk.new (w.alloc (.cells #[.int .i64 a, .int .i64 c] 44)) #[.int .i64 0, .int .i64 0, .int .i64 0, .int .i64 0, .bool false] 54
  rw [World.size_alloc] at Bz
  go_enter Try.func34, Try.ntmps34
  go_wp2_with fail
  refine (of_any a c _).mono ?_
  rintro e w1 ⟨⟨b, rfl, hU⟩, hb1⟩
  have hs1 := ((hs.alloc _).alloc _).below hb1
  have hB1 := since_step hB hb1
  have Bz1 := Bz.below hb1
  have hfz : ∀ i, w1.frozen? ⟨w.heap.size + 1, i, none⟩ = false := fun i => by rw [(hb1.frozen (p := ⟨w.heap.size + 1, i, none⟩) (by simp))]; simp
  clear hb1 hs Bz
  go_wp2_with fail
  refine (find_ch A cap l 74 #[.pointer (some ⟨b, 0, none⟩)] (ofC a c) _ hl hs1 ent_of1 (tells_of a c b _ hU)).mono ?_
  rintro e w2 ⟨rfl, hb2⟩
  have hB2 := since_step hB1 hb2
  have Bz2 := Bz1.below hb2
  have hfz2 : ∀ i, w2.frozen? ⟨w.heap.size + 1, i, none⟩ = false := fun i => by rw [(hb2.frozen (p := ⟨w.heap.size + 1, i, none⟩) Bz1.1)]; exact hfz i
  obtain ⟨lb, cb⟩ := id Bz2
  have q0 := cb 0
  have q1 := cb 1
  have q2 := cb 2
  have q3 := cb 3
  have q4 := cb 4
  simp at q0 q1 q2 q3 q4
  clear cb hb2 hfz Bz1 Bz2
  have hcs := @cell_set
  have e1 : pickL (ofC a c) Ch.zero l = findC l a c := rfl
  have e2 : (l.find? (ofC a c)).isSome = hasC l a c := rfl
  rw [e1, e2]
  clear e1 e2
  generalize hv : findC l a c = v
  generalize hq : hasC l a c = q
  have HV := Lib.hid hv
  have HQ := Lib.hid hq
  clear hv hq
  unfold Ch.val
  go_wp2_with fail
  refine bodyPost_ret (v := .tuple #[v.val, .bool q]) ?_ rfl ⟨?_, ?_⟩
  · simp [results, Try.results34, go_sem, q0, q1, q2, q3, q4, hfz2, Ch.val]
  · rw [HV.out, HQ.out]
  · repeat' (first | with_reducible exact hB2 | with_reducible refine Below.setCell ?_ ?_ _ | with_reducible refine Below.alloc ?_ ?_ _)
    all_goals first | (simp; done) | (simp; omega)

theorem UAt.keepB {w w' : World} {b : Nat} {a c : Int} (h : UAt w b a c) (hb : Below (b + 1) w w') : UAt w' b a c :=
  ⟨Nat.lt_of_lt_of_le h.1 hb.size, (hb.cell (p := ⟨b, 0, none⟩) (Nat.lt_succ_self b)).trans h.2.1, (hb.cell (p := ⟨b, 1, none⟩) (Nat.lt_succ_self b)).trans h.2.2⟩
theorem dropC_snoc (l : List Ch) (a c : Int) (k : Nat) (h : k < l.length) : dropC (l.take (k + 1)) a c = dropC (l.take k) a c ++ if (!ofC a c l[k]) = true then [l[k]] else [] := filter_snoc _ l k h
theorem dropC_len (l : List Ch) (a c : Int) : (dropC l a c).length ≤ l.length := List.length_filter_le _ _
def DropRel (l : List Ch) (a c : Int) (w : World) (out i : Value) (wr : World) : Prop :=
  ∃ (k : Nat) (A' : Option Addr) (c' : Nat), k ≤ l.length ∧ i = .int .i64 k ∧ out = .slice A' (dropC (l.take k) a c).length c' ∧
    wr.ownsRow (w.heap.size + 1) 54 5 (.slice A' (dropC (l.take k) a c).length c') (dropC (l.take k) a c).length (rc Ch.cells (dropC (l.take k) a c)) ∧ UAt wr w.heap.size a c ∧ Below (w.heap.size + 1) (w.alloc (.cells #[.int .i64 a, .int .i64 c] 44)) wr
set_option maxHeartbeats 4000000 in
set_option maxRecDepth 100000 in
theorem rdrop_any (A : Option Addr) (cap : Nat) (l : List Ch) (a c : Int) (w : World) (hl : l.length ≤ 1000000) (hs : Sl w A (rc Ch.cells l)) :
    Calls Try.prog 29 #[.slice A l.length cap, unitV a c] w fun e w' => OwnC w.heap.size w' e (dropC l a c) ∧ Below w.heap.size w w' := by
  unfold unitV
  have hU0 := UAt.new w a c 44
  have hs0 := hs.alloc (.cells #[.int .i64 a, .int .i64 c] 44)
  have hBW := since_alloc (Below.refl _ w) (.cells #[.int .i64 a, .int .i64 c] 44)
  go_enter Try.func29, Try.ntmps29
  go_wp2_with fail
  go_loopw [5, 6] (fun out i wr => DropRel l a c w out i wr) (fun _ i _ => l.length - (intOf i).toNat)
  case atStart => exact ⟨0, none, 0, by omega, rfl, rfl, own_nil _ _ _, hU0, Below.refl _ _⟩
  case round =>
    obtain ⟨k, A', c', hk, rfl, rfl, hown, hU, hB⟩ := hrel
    by_cases hlt2 : k < l.length
    · obtain ⟨b, o, rfl, hbw, hg⟩ := hs0.ch hlt2
      have hbw' : b < w.heap.size + 1 := by simpa using hbw
      have hsz : w.heap.size + 1 ≤ wr.heap.size := by have := hB.size; simpa using this
      have hbr : b < wr.heap.size := by omega
      have HK1 : Hid (∀ V, Below wr.heap.size wr V → l[k].at V b (o + k * 5)) := Lib.hid fun V hV =>
        Ch.at_keep hg fun i => (hV.cell (p := ⟨b, i, none⟩) hbr).trans (hB.cell (p := ⟨b, i, none⟩) hbw')
      have HU : Hid (∀ V, Below wr.heap.size wr V → UAt V w.heap.size a c) := Lib.hid fun V hV => hU.below hV
      have HO : Hid (∀ V, Below wr.heap.size wr V → V.ownsRow (w.heap.size + 1) 54 5 (.slice A' (dropC (l.take k) a c).length c') (dropC (l.take k) a c).length (rc Ch.cells (dropC (l.take k) a c))) := Lib.hid fun V hV => own_below hown hV
      have HD := Lib.hid (dropC_snoc l a c k hlt2)
      have hql : (dropC (l.take k) a c).length ≤ 1000000 := Nat.le_trans (dropC_len _ _ _) (by simp; omega)
      have hlk : (k : Int) < (l.length : Int) := by omega
      clear hg hs hs0 hU hown hbw
      generalize l[k] = v at HK1 HD
      generalize dropC (l.take k) a c = q at *
      obtain ⟨fa, fc, ta, tc, con⟩ := v
      unfold Ch.at at HK1
      simp only at HK1
      by_cases h1 : fa = a
      · subst h1
        by_cases h2 : fc = c
        · subst h2
          have HE : Hid (dropC (l.take (k + 1)) fa fc = q) := Lib.hid (by rw [HD.out]; simp [ofC])
          clear HD
          go_wp2_with fail
          refine wp_region_held_drew (S := (fun V => Below wr.heap.size wr V)) (by kernel_rfl) (by exact (Below.refl _ _).drew) (fun hHeld => ?_)
          refine wpAnyH_take (i := 0) (oi := { dst := some 13, op := _, type := _, pos := _, after := _, guard := _ }) (v := ?_) rfl (by kernel_rfl) (by kernel_rfl) (by kernel_rfl) (fun _ _ _ h => h) (Or.inl ⟨by rfl, ?_⟩) hHeld ?_
          rotate_left
          · (intro w hSw; obtain ⟨g0, g1, g2, g3, g4⟩ := HK1.out _ hSw; obtain ⟨u0, u1, u2⟩ := HU.out _ hSw; go_simp <;> with_reducible rfl)
          try simp only [Act.put, List.setIfInBounds_toArray, List.set_cons_zero, List.set_cons_succ]
          refine wpAnyH_take (i := 1) (oi := { dst := some 14, op := _, type := _, pos := _, after := _, guard := _ }) (v := ?_) rfl (by kernel_rfl) (by kernel_rfl) (by kernel_rfl) (fun _ _ _ h => h) (Or.inl ⟨by rfl, ?_⟩) hHeld ?_
          rotate_left
          · (intro w hSw; obtain ⟨g0, g1, g2, g3, g4⟩ := HK1.out _ hSw; obtain ⟨u0, u1, u2⟩ := HU.out _ hSw; go_simp <;> with_reducible rfl)
          try simp only [Act.put, List.setIfInBounds_toArray, List.set_cons_zero, List.set_cons_succ]
          refine wpAnyH_take (i := 2) (oi := { dst := some 15, op := _, type := _, pos := _, after := _, guard := _ }) (v := ?_) rfl (by kernel_rfl) (by kernel_rfl) (by kernel_rfl) (fun _ _ _ h => h) (Or.inl ⟨by rfl, ?_⟩) hHeld ?_
          rotate_left
          · (intro w hSw; obtain ⟨g0, g1, g2, g3, g4⟩ := HK1.out _ hSw; obtain ⟨u0, u1, u2⟩ := HU.out _ hSw; go_simp <;> with_reducible rfl)
          try simp only [Act.put, List.setIfInBounds_toArray, List.set_cons_zero, List.set_cons_succ]
          refine wpAnyH_take (i := 3) (oi := { dst := some 16, op := _, type := _, pos := _, after := _, guard := _ }) (v := ?_) rfl (by kernel_rfl) (by kernel_rfl) (by kernel_rfl) (fun _ _ _ h => h) (Or.inl ⟨by rfl, ?_⟩) hHeld ?_
          rotate_left
          · (intro w hSw; obtain ⟨g0, g1, g2, g3, g4⟩ := HK1.out _ hSw; obtain ⟨u0, u1, u2⟩ := HU.out _ hSw; go_simp <;> with_reducible rfl)
          try simp only [Act.put, List.setIfInBounds_toArray, List.set_cons_zero, List.set_cons_succ]
          refine wpAnyH_take (i := 4) (oi := { dst := some 17, op := _, type := _, pos := _, after := _, guard := _ }) (v := ?_) rfl (by kernel_rfl) (by kernel_rfl) (by kernel_rfl) (fun _ _ _ h => h) (Or.inl ⟨by rfl, ?_⟩) hHeld ?_
          rotate_left
          · (intro w hSw; obtain ⟨g0, g1, g2, g3, g4⟩ := HK1.out _ hSw; obtain ⟨u0, u1, u2⟩ := HU.out _ hSw; go_simp <;> with_reducible rfl)
          try simp only [Act.put, List.setIfInBounds_toArray, List.set_cons_zero, List.set_cons_succ]
          refine wpAnyH_take (i := 5) (oi := { dst := some 18, op := _, type := _, pos := _, after := _, guard := _ }) (v := ?_) rfl (by kernel_rfl) (by kernel_rfl) (by kernel_rfl) (fun _ _ _ h => h) (Or.inl ⟨by rfl, ?_⟩) hHeld ?_
          rotate_left
          · (intro w hSw; obtain ⟨g0, g1, g2, g3, g4⟩ := HK1.out _ hSw; obtain ⟨u0, u1, u2⟩ := HU.out _ hSw; go_simp <;> with_reducible rfl)
          try simp only [Act.put, List.setIfInBounds_toArray, List.set_cons_zero, List.set_cons_succ]
          refine wpAnyH_take (i := 6) (oi := { dst := some 19, op := _, type := _, pos := _, after := _, guard := _ }) (v := ?_) rfl (by kernel_rfl) (by kernel_rfl) (by kernel_rfl) (fun _ _ _ h => h) (Or.inl ⟨by rfl, ?_⟩) hHeld ?_
          rotate_left
          · (intro w hSw; obtain ⟨g0, g1, g2, g3, g4⟩ := HK1.out _ hSw; obtain ⟨u0, u1, u2⟩ := HU.out _ hSw; go_simp <;> with_reducible rfl)
          try simp only [Act.put, List.setIfInBounds_toArray, List.set_cons_zero, List.set_cons_succ]
          refine wpAnyH_done (by kernel_rfl) ?_ _
          have hU2 := HU.out _ hHeld
          have hO2 := HO.out _ hHeld
          have hB2 := hB.trans (hHeld.mono hsz)
          go_wp2_with fail
          go_roundw
          case rel => exact ⟨k + 1, A', c', by omega, by go_num, by rw [HE.out], by rw [HE.out]; exact hO2, hU2, hB2⟩
          case measure => simp [intOf]; omega
        · have HE : Hid (dropC (l.take (k + 1)) fa c = q ++ [⟨fa, fc, ta, tc, con⟩]) := Lib.hid (by rw [HD.out]; simp [ofC, h2])
          clear HD
          go_wp2_with fail
          refine wp_region_held_drew (S := (fun V => Below wr.heap.size wr V)) (by kernel_rfl) (by exact (Below.refl _ _).drew) (fun hHeld => ?_)
          refine wpAnyH_take (i := 0) (oi := { dst := some 13, op := _, type := _, pos := _, after := _, guard := _ }) (v := ?_) rfl (by kernel_rfl) (by kernel_rfl) (by kernel_rfl) (fun _ _ _ h => h) (Or.inl ⟨by rfl, ?_⟩) hHeld ?_
          rotate_left
          · (intro w hSw; obtain ⟨g0, g1, g2, g3, g4⟩ := HK1.out _ hSw; obtain ⟨u0, u1, u2⟩ := HU.out _ hSw; go_simp <;> with_reducible rfl)
          try simp only [Act.put, List.setIfInBounds_toArray, List.set_cons_zero, List.set_cons_succ]
          refine wpAnyH_take (i := 1) (oi := { dst := some 14, op := _, type := _, pos := _, after := _, guard := _ }) (v := ?_) rfl (by kernel_rfl) (by kernel_rfl) (by kernel_rfl) (fun _ _ _ h => h) (Or.inl ⟨by rfl, ?_⟩) hHeld ?_
          rotate_left
          · (intro w hSw; obtain ⟨g0, g1, g2, g3, g4⟩ := HK1.out _ hSw; obtain ⟨u0, u1, u2⟩ := HU.out _ hSw; go_simp <;> with_reducible rfl)
          try simp only [Act.put, List.setIfInBounds_toArray, List.set_cons_zero, List.set_cons_succ]
          refine wpAnyH_take (i := 2) (oi := { dst := some 15, op := _, type := _, pos := _, after := _, guard := _ }) (v := ?_) rfl (by kernel_rfl) (by kernel_rfl) (by kernel_rfl) (fun _ _ _ h => h) (Or.inl ⟨by rfl, ?_⟩) hHeld ?_
          rotate_left
          · (intro w hSw; obtain ⟨g0, g1, g2, g3, g4⟩ := HK1.out _ hSw; obtain ⟨u0, u1, u2⟩ := HU.out _ hSw; go_simp <;> with_reducible rfl)
          try simp only [Act.put, List.setIfInBounds_toArray, List.set_cons_zero, List.set_cons_succ]
          refine wpAnyH_take (i := 3) (oi := { dst := some 16, op := _, type := _, pos := _, after := _, guard := _ }) (v := ?_) rfl (by kernel_rfl) (by kernel_rfl) (by kernel_rfl) (fun _ _ _ h => h) (Or.inl ⟨by rfl, ?_⟩) hHeld ?_
          rotate_left
          · (intro w hSw; obtain ⟨g0, g1, g2, g3, g4⟩ := HK1.out _ hSw; obtain ⟨u0, u1, u2⟩ := HU.out _ hSw; go_simp <;> with_reducible rfl)
          try simp only [Act.put, List.setIfInBounds_toArray, List.set_cons_zero, List.set_cons_succ]
          refine wpAnyH_take (i := 4) (oi := { dst := some 17, op := _, type := _, pos := _, after := _, guard := _ }) (v := ?_) rfl (by kernel_rfl) (by kernel_rfl) (by kernel_rfl) (fun _ _ _ h => h) (Or.inl ⟨by rfl, ?_⟩) hHeld ?_
          rotate_left
          · (intro w hSw; obtain ⟨g0, g1, g2, g3, g4⟩ := HK1.out _ hSw; obtain ⟨u0, u1, u2⟩ := HU.out _ hSw; go_simp <;> with_reducible rfl)
          try simp only [Act.put, List.setIfInBounds_toArray, List.set_cons_zero, List.set_cons_succ]
          refine wpAnyH_take (i := 5) (oi := { dst := some 18, op := _, type := _, pos := _, after := _, guard := _ }) (v := ?_) rfl (by kernel_rfl) (by kernel_rfl) (by kernel_rfl) (fun _ _ _ h => h) (Or.inl ⟨by rfl, ?_⟩) hHeld ?_
          rotate_left
          · (intro w hSw; obtain ⟨g0, g1, g2, g3, g4⟩ := HK1.out _ hSw; obtain ⟨u0, u1, u2⟩ := HU.out _ hSw; go_simp <;> with_reducible rfl)
          try simp only [Act.put, List.setIfInBounds_toArray, List.set_cons_zero, List.set_cons_succ]
          refine wpAnyH_take (i := 6) (oi := { dst := some 19, op := _, type := _, pos := _, after := _, guard := _ }) (v := ?_) rfl (by kernel_rfl) (by kernel_rfl) (by kernel_rfl) (fun _ _ _ h => h) (Or.inl ⟨by rfl, ?_⟩) hHeld ?_
          rotate_left
          · (intro w hSw; obtain ⟨g0, g1, g2, g3, g4⟩ := HK1.out _ hSw; obtain ⟨u0, u1, u2⟩ := HU.out _ hSw; go_simp <;> with_reducible rfl)
          try simp only [Act.put, List.setIfInBounds_toArray, List.set_cons_zero, List.set_cons_succ]
          refine wpAnyH_done (by kernel_rfl) ?_ _
          have hU2 := HU.out _ hHeld
          have hO2 := HO.out _ hHeld
          have hB2 := hB.trans (hHeld.mono hsz)
          obtain ⟨g0, g1, g2, g3, g4⟩ := HK1.out _ hHeld
          have hsz2 := hHeld.size
          go_wp2_with (first
            | (at_builtin; refine wpList_app rfl (.tmp 20) (.tmp 25) rfl ECh rfl rfl (hO2.alloc _) (m := 1) (news := (⟨fa, fc, ta, tc, con⟩ : Ch).cells) rfl (Sl.new_ _ _ _) (Ch.one _) (by unfold maxLen; omega) (by omega) (by simp; omega) ?_; intro A2 c2 w2 hown2 hg2 hb2)
            | fail)
          go_roundw
          case rel =>
            refine ⟨k + 1, A2, c2, by omega, by go_num, ?_, ?_, ?_, ?_⟩
            · rw [HE.out, List.length_append]; rfl
            · rw [HE.out, List.length_append, rc_append]
              simpa [rc] using hown2
            · exact UAt.keepB (UAt.below hU2 ((Below.refl _ _).alloc (Nat.le_refl _) _)) hb2
            · exact (hB2.alloc (by omega) _).trans hb2
          case measure => simp [intOf]; omega
      · have HE : Hid (dropC (l.take (k + 1)) a c = q ++ [⟨fa, fc, ta, tc, con⟩]) := Lib.hid (by rw [HD.out]; simp [ofC, h1])
        clear HD
        go_wp2_with fail
        refine wp_region_held_drew (S := (fun V => Below wr.heap.size wr V)) (by kernel_rfl) (by exact (Below.refl _ _).drew) (fun hHeld => ?_)
        refine wpAnyH_take (i := 0) (oi := { dst := some 13, op := _, type := _, pos := _, after := _, guard := _ }) (v := ?_) rfl (by kernel_rfl) (by kernel_rfl) (by kernel_rfl) (fun _ _ _ h => h) (Or.inl ⟨by rfl, ?_⟩) hHeld ?_
        rotate_left
        · (intro w hSw; obtain ⟨g0, g1, g2, g3, g4⟩ := HK1.out _ hSw; obtain ⟨u0, u1, u2⟩ := HU.out _ hSw; go_simp <;> with_reducible rfl)
        try simp only [Act.put, List.setIfInBounds_toArray, List.set_cons_zero, List.set_cons_succ]
        refine wpAnyH_take (i := 1) (oi := { dst := some 14, op := _, type := _, pos := _, after := _, guard := _ }) (v := ?_) rfl (by kernel_rfl) (by kernel_rfl) (by kernel_rfl) (fun _ _ _ h => h) (Or.inl ⟨by rfl, ?_⟩) hHeld ?_
        rotate_left
        · (intro w hSw; obtain ⟨g0, g1, g2, g3, g4⟩ := HK1.out _ hSw; obtain ⟨u0, u1, u2⟩ := HU.out _ hSw; go_simp <;> with_reducible rfl)
        try simp only [Act.put, List.setIfInBounds_toArray, List.set_cons_zero, List.set_cons_succ]
        refine wpAnyH_take (i := 2) (oi := { dst := some 15, op := _, type := _, pos := _, after := _, guard := _ }) (v := ?_) rfl (by kernel_rfl) (by kernel_rfl) (by kernel_rfl) (fun _ _ _ h => h) (Or.inl ⟨by rfl, ?_⟩) hHeld ?_
        rotate_left
        · (intro w hSw; obtain ⟨g0, g1, g2, g3, g4⟩ := HK1.out _ hSw; obtain ⟨u0, u1, u2⟩ := HU.out _ hSw; go_simp <;> with_reducible rfl)
        try simp only [Act.put, List.setIfInBounds_toArray, List.set_cons_zero, List.set_cons_succ]
        refine wpAnyH_take (i := 3) (oi := { dst := some 16, op := _, type := _, pos := _, after := _, guard := _ }) (v := ?_) rfl (by kernel_rfl) (by kernel_rfl) (by kernel_rfl) (fun _ _ _ h => h) (Or.inl ⟨by rfl, ?_⟩) hHeld ?_
        rotate_left
        · (intro w hSw; obtain ⟨g0, g1, g2, g3, g4⟩ := HK1.out _ hSw; obtain ⟨u0, u1, u2⟩ := HU.out _ hSw; go_simp <;> with_reducible rfl)
        try simp only [Act.put, List.setIfInBounds_toArray, List.set_cons_zero, List.set_cons_succ]
        refine wpAnyH_take (i := 4) (oi := { dst := some 17, op := _, type := _, pos := _, after := _, guard := _ }) (v := ?_) rfl (by kernel_rfl) (by kernel_rfl) (by kernel_rfl) (fun _ _ _ h => h) (Or.inl ⟨by rfl, ?_⟩) hHeld ?_
        rotate_left
        · (intro w hSw; obtain ⟨g0, g1, g2, g3, g4⟩ := HK1.out _ hSw; obtain ⟨u0, u1, u2⟩ := HU.out _ hSw; go_simp <;> with_reducible rfl)
        try simp only [Act.put, List.setIfInBounds_toArray, List.set_cons_zero, List.set_cons_succ]
        refine wpAnyH_take (i := 5) (oi := { dst := some 18, op := _, type := _, pos := _, after := _, guard := _ }) (v := ?_) rfl (by kernel_rfl) (by kernel_rfl) (by kernel_rfl) (fun _ _ _ h => h) (Or.inl ⟨by rfl, ?_⟩) hHeld ?_
        rotate_left
        · (intro w hSw; obtain ⟨g0, g1, g2, g3, g4⟩ := HK1.out _ hSw; obtain ⟨u0, u1, u2⟩ := HU.out _ hSw; go_simp <;> with_reducible rfl)
        try simp only [Act.put, List.setIfInBounds_toArray, List.set_cons_zero, List.set_cons_succ]
        refine wpAnyH_take (i := 6) (oi := { dst := some 19, op := _, type := _, pos := _, after := _, guard := _ }) (v := ?_) rfl (by kernel_rfl) (by kernel_rfl) (by kernel_rfl) (fun _ _ _ h => h) (Or.inl ⟨by rfl, ?_⟩) hHeld ?_
        rotate_left
        · (intro w hSw; obtain ⟨g0, g1, g2, g3, g4⟩ := HK1.out _ hSw; obtain ⟨u0, u1, u2⟩ := HU.out _ hSw; go_simp <;> with_reducible rfl)
        try simp only [Act.put, List.setIfInBounds_toArray, List.set_cons_zero, List.set_cons_succ]
        refine wpAnyH_done (by kernel_rfl) ?_ _
        have hU2 := HU.out _ hHeld
        have hO2 := HO.out _ hHeld
        have hB2 := hB.trans (hHeld.mono hsz)
        obtain ⟨g0, g1, g2, g3, g4⟩ := HK1.out _ hHeld
        have hsz2 := hHeld.size
        go_wp2_with (first
          | (at_builtin; refine wpList_app rfl (.tmp 20) (.tmp 25) rfl ECh rfl rfl (hO2.alloc _) (m := 1) (news := (⟨fa, fc, ta, tc, con⟩ : Ch).cells) rfl (Sl.new_ _ _ _) (Ch.one _) (by unfold maxLen; omega) (by omega) (by simp; omega) ?_; intro A2 c2 w2 hown2 hg2 hb2)
          | fail)
        go_roundw
        case rel =>
          refine ⟨k + 1, A2, c2, by omega, by go_num, ?_, ?_, ?_, ?_⟩
          · rw [HE.out, List.length_append]; rfl
          · rw [HE.out, List.length_append, rc_append]
            simpa [rc] using hown2
          · exact UAt.keepB (UAt.below hU2 ((Below.refl _ _).alloc (Nat.le_refl _) _)) hb2
          · exact (hB2.alloc (by omega) _).trans hb2
        case measure => simp [intOf]; omega
    · obtain rfl : k = l.length := by omega
      rw [List.take_length] at hown ⊢
      have hB2 := hBW.trans (hB.mono (by omega))
      have hown2 := own_base hown (show w.heap.size ≤ w.heap.size + 1 by omega)
      go_wp2_with fail
      go_ret
      exact ⟨⟨A', c', rfl, hown2⟩, hB2⟩

def FindRel (l : List Ch) (a c : Int) (w W0 : World) (i : Value) (wr : World) : Prop :=
  ∃ k : Nat, k ≤ l.length ∧ i = .int .i64 k ∧ (∀ j, (hj : j < l.length) → j < k → ofC a c l[j] = false) ∧ Below W0.heap.size W0 wr
set_option maxHeartbeats 4000000 in
set_option maxRecDepth 100000 in
theorem rfind_any (A : Option Addr) (cap : Nat) (l : List Ch) (a c : Int) (w : World) (hl : l.length ≤ 1000000) (hs : Sl w A (rc Ch.cells l)) :
    Calls Try.prog 35 #[.slice A l.length cap, unitV a c] w fun e w' => e = .returned (.tuple #[(findC l a c).val, .bool (hasC l a c)]) ∧ Below w.heap.size w w' := by
  unfold unitV
  have hB0 := since_alloc (since_alloc (Below.refl _ w) (.cells #[.int .i64 a, .int .i64 c] 44)) (.cells #[.int .i64 0, .int .i64 0, .int .i64 0, .int .i64 0, .bool false] 54)
  have hU0 := (UAt.new w a c 44).below ((Below.refl _ _).alloc (Nat.le_refl _) (.cells #[.int .i64 0, .int .i64 0, .int .i64 0, .int .i64 0, .bool false] 54))
  have Bz0 := Bk.new (w.alloc (.cells #[.int .i64 a, .int .i64 c] 44)) #[.int .i64 0, .int .i64 0, .int .i64 0, .int .i64 0, .bool false] 54
  rw [World.size_alloc] at Bz0
  have hfz0 : ∀ i, ((w.alloc (.cells #[.int .i64 a, .int .i64 c] 44)).alloc (.cells #[.int .i64 0, .int .i64 0, .int .i64 0, .int .i64 0, .bool false] 54)).frozen? ⟨w.heap.size + 1, i, none⟩ = false := fun i => by simp
  have hs0 := (hs.alloc (.cells #[.int .i64 a, .int .i64 c] 44)).alloc (.cells #[.int .i64 0, .int .i64 0, .int .i64 0, .int .i64 0, .bool false] 54)
  go_enter Try.func35, Try.ntmps35
  go_upto_region 1 with fail
  generalize hWW : ((w.alloc (.cells #[.int .i64 a, .int .i64 c] 44)).alloc (.cells #[.int .i64 0, .int .i64 0, .int .i64 0, .int .i64 0, .bool false] 54)) = W0 at *
  clear hWW hs
  have hz1 : w.heap.size + 1 < W0.heap.size := Bz0.1
  have HZ : Hid (∀ V, Below W0.heap.size W0 V → Bk V (w.heap.size + 1) #[.int .i64 0, .int .i64 0, .int .i64 0, .int .i64 0, .bool false] ∧ ∀ i, V.frozen? ⟨w.heap.size + 1, i, none⟩ = false) := Lib.hid fun V hV =>
    ⟨Bz0.below hV, fun i => by rw [(hV.frozen (p := ⟨w.heap.size + 1, i, none⟩) hz1)]; exact hfz0 i⟩
  clear Bz0 hfz0
  go_wp2_with fail
  go_loopw [6] (fun i wr => FindRel l a c w W0 i wr) (fun i _ => l.length - (intOf i).toNat)
  case atStart => exact ⟨0, by omega, rfl, fun j hj h => absurd h (by omega), Below.refl _ _⟩
  case round =>
    obtain ⟨k, hk, rfl, hno, hB⟩ := hrel
    by_cases hlt2 : k < l.length
    · obtain ⟨b, o, rfl, hbw, hg⟩ := hs0.ch hlt2
      have hsz : W0.heap.size ≤ wr.heap.size := hB.size
      have hbr : b < wr.heap.size := by omega
      have HK1 : Hid (∀ V, Below wr.heap.size wr V → l[k].at V b (o + k * 5)) := Lib.hid fun V hV =>
        Ch.at_keep hg fun i => (hV.cell (p := ⟨b, i, none⟩) hbr).trans (hB.cell (p := ⟨b, i, none⟩) hbw)
      have HU : Hid (∀ V, Below wr.heap.size wr V → UAt V w.heap.size a c) := Lib.hid fun V hV => (hU0.below hB).below hV
      have HX : Hid (∀ q : Bool, ofC a c l[k] = q → if q then findC l a c = l[k] ∧ hasC l a c = true else ∀ j, (hj : j < l.length) → j < k + 1 → ofC a c l[j] = false) := Lib.hid fun q hq => by
        cases q with
        | true =>
          have := find_some hlt2 (fun j hj => hno j (by omega) hj) hq
          exact ⟨by rw [findC, pickL, this]; rfl, by rw [hasC, this]; rfl⟩
        | false =>
          intro j hj hjk
          rcases Nat.lt_or_ge j k with h | h
          · exact hno j hj h
          · obtain rfl : j = k := by omega
            exact hq
      have hlk : (k : Int) < (l.length : Int) := by omega
      clear hg hs0 hU0 hbw hno
      generalize l[k] = v at HK1 HX
      obtain ⟨fa, fc, ta, tc, con⟩ := v
      unfold Ch.at at HK1
      simp only at HK1
      by_cases h1 : fa = a
      · subst h1
        by_cases h2 : fc = c
        · subst h2
          have HF := Lib.hid (show findC l fa fc = _ ∧ hasC l fa fc = true by simpa using HX.out true (by simp [ofC]))
          clear HX
          go_wp2_with fail
          refine wp_region_held_drew (S := (fun V => Below wr.heap.size wr V)) (by kernel_rfl) (by exact (Below.refl _ _).drew) (fun hHeld => ?_)
          refine wpAnyH_take (i := 0) (oi := { dst := some 13, op := _, type := _, pos := _, after := _, guard := _ }) (v := ?_) rfl (by kernel_rfl) (by kernel_rfl) (by kernel_rfl) (fun _ _ _ h => h) (Or.inl ⟨by rfl, ?_⟩) hHeld ?_
          rotate_left
          · (intro w hSw; obtain ⟨g0, g1, g2, g3, g4⟩ := HK1.out _ hSw; obtain ⟨u0, u1, u2⟩ := HU.out _ hSw; go_simp <;> with_reducible rfl)
          try simp only [Act.put, List.setIfInBounds_toArray, List.set_cons_zero, List.set_cons_succ]
          refine wpAnyH_take (i := 1) (oi := { dst := some 14, op := _, type := _, pos := _, after := _, guard := _ }) (v := ?_) rfl (by kernel_rfl) (by kernel_rfl) (by kernel_rfl) (fun _ _ _ h => h) (Or.inl ⟨by rfl, ?_⟩) hHeld ?_
          rotate_left
          · (intro w hSw; obtain ⟨g0, g1, g2, g3, g4⟩ := HK1.out _ hSw; obtain ⟨u0, u1, u2⟩ := HU.out _ hSw; go_simp <;> with_reducible rfl)
          try simp only [Act.put, List.setIfInBounds_toArray, List.set_cons_zero, List.set_cons_succ]
          refine wpAnyH_take (i := 2) (oi := { dst := some 15, op := _, type := _, pos := _, after := _, guard := _ }) (v := ?_) rfl (by kernel_rfl) (by kernel_rfl) (by kernel_rfl) (fun _ _ _ h => h) (Or.inl ⟨by rfl, ?_⟩) hHeld ?_
          rotate_left
          · (intro w hSw; obtain ⟨g0, g1, g2, g3, g4⟩ := HK1.out _ hSw; obtain ⟨u0, u1, u2⟩ := HU.out _ hSw; go_simp <;> with_reducible rfl)
          try simp only [Act.put, List.setIfInBounds_toArray, List.set_cons_zero, List.set_cons_succ]
          refine wpAnyH_take (i := 3) (oi := { dst := some 16, op := _, type := _, pos := _, after := _, guard := _ }) (v := ?_) rfl (by kernel_rfl) (by kernel_rfl) (by kernel_rfl) (fun _ _ _ h => h) (Or.inl ⟨by rfl, ?_⟩) hHeld ?_
          rotate_left
          · (intro w hSw; obtain ⟨g0, g1, g2, g3, g4⟩ := HK1.out _ hSw; obtain ⟨u0, u1, u2⟩ := HU.out _ hSw; go_simp <;> with_reducible rfl)
          try simp only [Act.put, List.setIfInBounds_toArray, List.set_cons_zero, List.set_cons_succ]
          refine wpAnyH_take (i := 4) (oi := { dst := some 17, op := _, type := _, pos := _, after := _, guard := _ }) (v := ?_) rfl (by kernel_rfl) (by kernel_rfl) (by kernel_rfl) (fun _ _ _ h => h) (Or.inl ⟨by rfl, ?_⟩) hHeld ?_
          rotate_left
          · (intro w hSw; obtain ⟨g0, g1, g2, g3, g4⟩ := HK1.out _ hSw; obtain ⟨u0, u1, u2⟩ := HU.out _ hSw; go_simp <;> with_reducible rfl)
          try simp only [Act.put, List.setIfInBounds_toArray, List.set_cons_zero, List.set_cons_succ]
          refine wpAnyH_take (i := 5) (oi := { dst := some 18, op := _, type := _, pos := _, after := _, guard := _ }) (v := ?_) rfl (by kernel_rfl) (by kernel_rfl) (by kernel_rfl) (fun _ _ _ h => h) (Or.inl ⟨by rfl, ?_⟩) hHeld ?_
          rotate_left
          · (intro w hSw; obtain ⟨g0, g1, g2, g3, g4⟩ := HK1.out _ hSw; obtain ⟨u0, u1, u2⟩ := HU.out _ hSw; go_simp <;> with_reducible rfl)
          try simp only [Act.put, List.setIfInBounds_toArray, List.set_cons_zero, List.set_cons_succ]
          refine wpAnyH_take (i := 6) (oi := { dst := some 19, op := _, type := _, pos := _, after := _, guard := _ }) (v := ?_) rfl (by kernel_rfl) (by kernel_rfl) (by kernel_rfl) (fun _ _ _ h => h) (Or.inl ⟨by rfl, ?_⟩) hHeld ?_
          rotate_left
          · (intro w hSw; obtain ⟨g0, g1, g2, g3, g4⟩ := HK1.out _ hSw; obtain ⟨u0, u1, u2⟩ := HU.out _ hSw; go_simp <;> with_reducible rfl)
          try simp only [Act.put, List.setIfInBounds_toArray, List.set_cons_zero, List.set_cons_succ]
          refine wpAnyH_done (by kernel_rfl) ?_ _
          have hBr := hB.trans (hHeld.mono hsz)
          have hB2 := hB0.trans (hBr.mono (by omega))
          obtain ⟨g0, g1, g2, g3, g4⟩ := HK1.out _ hHeld
          obtain ⟨⟨lb, cb⟩, hfz⟩ := HZ.out _ hBr
          have q0 := cb 0
          have q1 := cb 1
          have q2 := cb 2
          have q3 := cb 3
          have q4 := cb 4
          simp at q0 q1 q2 q3 q4 lb hfz
          have hcs := @cell_set
          clear cb HZ
          go_wp2_with fail
          refine bodyPost_ret (v := .tuple #[(⟨fa, fc, ta, tc, con⟩ : Ch).val, .bool true]) ?_ rfl ⟨?_, ?_⟩
          · simp [results, Try.results35, go_sem, q0, q1, q2, q3, q4, hfz, Ch.val]
          · rw [HF.out.1, HF.out.2]
          · have hB3 := hB0.trans (hB.mono (show w.heap.size ≤ W0.heap.size by omega))
            repeat' (first | with_reducible exact hB3 | with_reducible refine Below.drew ?_ | with_reducible refine Below.setCell ?_ ?_ _ | with_reducible refine Below.alloc ?_ ?_ _)
            all_goals exact Nat.le_succ _
        · have HN := Lib.hid (show ∀ j, (hj : j < l.length) → j < k + 1 → ofC fa c l[j] = false by simpa using HX.out false (by simp [ofC, h2]))
          clear HX
          go_wp2_with fail
          refine wp_region_held_drew (S := (fun V => Below wr.heap.size wr V)) (by kernel_rfl) (by exact (Below.refl _ _).drew) (fun hHeld => ?_)
          refine wpAnyH_take (i := 0) (oi := { dst := some 13, op := _, type := _, pos := _, after := _, guard := _ }) (v := ?_) rfl (by kernel_rfl) (by kernel_rfl) (by kernel_rfl) (fun _ _ _ h => h) (Or.inl ⟨by rfl, ?_⟩) hHeld ?_
          rotate_left
          · (intro w hSw; obtain ⟨g0, g1, g2, g3, g4⟩ := HK1.out _ hSw; obtain ⟨u0, u1, u2⟩ := HU.out _ hSw; go_simp <;> with_reducible rfl)
          try simp only [Act.put, List.setIfInBounds_toArray, List.set_cons_zero, List.set_cons_succ]
          refine wpAnyH_take (i := 1) (oi := { dst := some 14, op := _, type := _, pos := _, after := _, guard := _ }) (v := ?_) rfl (by kernel_rfl) (by kernel_rfl) (by kernel_rfl) (fun _ _ _ h => h) (Or.inl ⟨by rfl, ?_⟩) hHeld ?_
          rotate_left
          · (intro w hSw; obtain ⟨g0, g1, g2, g3, g4⟩ := HK1.out _ hSw; obtain ⟨u0, u1, u2⟩ := HU.out _ hSw; go_simp <;> with_reducible rfl)
          try simp only [Act.put, List.setIfInBounds_toArray, List.set_cons_zero, List.set_cons_succ]
          refine wpAnyH_take (i := 2) (oi := { dst := some 15, op := _, type := _, pos := _, after := _, guard := _ }) (v := ?_) rfl (by kernel_rfl) (by kernel_rfl) (by kernel_rfl) (fun _ _ _ h => h) (Or.inl ⟨by rfl, ?_⟩) hHeld ?_
          rotate_left
          · (intro w hSw; obtain ⟨g0, g1, g2, g3, g4⟩ := HK1.out _ hSw; obtain ⟨u0, u1, u2⟩ := HU.out _ hSw; go_simp <;> with_reducible rfl)
          try simp only [Act.put, List.setIfInBounds_toArray, List.set_cons_zero, List.set_cons_succ]
          refine wpAnyH_take (i := 3) (oi := { dst := some 16, op := _, type := _, pos := _, after := _, guard := _ }) (v := ?_) rfl (by kernel_rfl) (by kernel_rfl) (by kernel_rfl) (fun _ _ _ h => h) (Or.inl ⟨by rfl, ?_⟩) hHeld ?_
          rotate_left
          · (intro w hSw; obtain ⟨g0, g1, g2, g3, g4⟩ := HK1.out _ hSw; obtain ⟨u0, u1, u2⟩ := HU.out _ hSw; go_simp <;> with_reducible rfl)
          try simp only [Act.put, List.setIfInBounds_toArray, List.set_cons_zero, List.set_cons_succ]
          refine wpAnyH_take (i := 4) (oi := { dst := some 17, op := _, type := _, pos := _, after := _, guard := _ }) (v := ?_) rfl (by kernel_rfl) (by kernel_rfl) (by kernel_rfl) (fun _ _ _ h => h) (Or.inl ⟨by rfl, ?_⟩) hHeld ?_
          rotate_left
          · (intro w hSw; obtain ⟨g0, g1, g2, g3, g4⟩ := HK1.out _ hSw; obtain ⟨u0, u1, u2⟩ := HU.out _ hSw; go_simp <;> with_reducible rfl)
          try simp only [Act.put, List.setIfInBounds_toArray, List.set_cons_zero, List.set_cons_succ]
          refine wpAnyH_take (i := 5) (oi := { dst := some 18, op := _, type := _, pos := _, after := _, guard := _ }) (v := ?_) rfl (by kernel_rfl) (by kernel_rfl) (by kernel_rfl) (fun _ _ _ h => h) (Or.inl ⟨by rfl, ?_⟩) hHeld ?_
          rotate_left
          · (intro w hSw; obtain ⟨g0, g1, g2, g3, g4⟩ := HK1.out _ hSw; obtain ⟨u0, u1, u2⟩ := HU.out _ hSw; go_simp <;> with_reducible rfl)
          try simp only [Act.put, List.setIfInBounds_toArray, List.set_cons_zero, List.set_cons_succ]
          refine wpAnyH_take (i := 6) (oi := { dst := some 19, op := _, type := _, pos := _, after := _, guard := _ }) (v := ?_) rfl (by kernel_rfl) (by kernel_rfl) (by kernel_rfl) (fun _ _ _ h => h) (Or.inl ⟨by rfl, ?_⟩) hHeld ?_
          rotate_left
          · (intro w hSw; obtain ⟨g0, g1, g2, g3, g4⟩ := HK1.out _ hSw; obtain ⟨u0, u1, u2⟩ := HU.out _ hSw; go_simp <;> with_reducible rfl)
          try simp only [Act.put, List.setIfInBounds_toArray, List.set_cons_zero, List.set_cons_succ]
          refine wpAnyH_done (by kernel_rfl) ?_ _
          have hB2 := hB.trans (hHeld.mono hsz)
          go_wp2_with fail
          go_roundw
          case rel => exact ⟨k + 1, by omega, by go_num, HN.out, hB2⟩
          case measure => simp [intOf]; omega
      · have HN := Lib.hid (show ∀ j, (hj : j < l.length) → j < k + 1 → ofC a c l[j] = false by simpa using HX.out false (by simp [ofC, h1]))
        clear HX
        go_wp2_with fail
        refine wp_region_held_drew (S := (fun V => Below wr.heap.size wr V)) (by kernel_rfl) (by exact (Below.refl _ _).drew) (fun hHeld => ?_)
        refine wpAnyH_take (i := 0) (oi := { dst := some 13, op := _, type := _, pos := _, after := _, guard := _ }) (v := ?_) rfl (by kernel_rfl) (by kernel_rfl) (by kernel_rfl) (fun _ _ _ h => h) (Or.inl ⟨by rfl, ?_⟩) hHeld ?_
        rotate_left
        · (intro w hSw; obtain ⟨g0, g1, g2, g3, g4⟩ := HK1.out _ hSw; obtain ⟨u0, u1, u2⟩ := HU.out _ hSw; go_simp <;> with_reducible rfl)
        try simp only [Act.put, List.setIfInBounds_toArray, List.set_cons_zero, List.set_cons_succ]
        refine wpAnyH_take (i := 1) (oi := { dst := some 14, op := _, type := _, pos := _, after := _, guard := _ }) (v := ?_) rfl (by kernel_rfl) (by kernel_rfl) (by kernel_rfl) (fun _ _ _ h => h) (Or.inl ⟨by rfl, ?_⟩) hHeld ?_
        rotate_left
        · (intro w hSw; obtain ⟨g0, g1, g2, g3, g4⟩ := HK1.out _ hSw; obtain ⟨u0, u1, u2⟩ := HU.out _ hSw; go_simp <;> with_reducible rfl)
        try simp only [Act.put, List.setIfInBounds_toArray, List.set_cons_zero, List.set_cons_succ]
        refine wpAnyH_take (i := 2) (oi := { dst := some 15, op := _, type := _, pos := _, after := _, guard := _ }) (v := ?_) rfl (by kernel_rfl) (by kernel_rfl) (by kernel_rfl) (fun _ _ _ h => h) (Or.inl ⟨by rfl, ?_⟩) hHeld ?_
        rotate_left
        · (intro w hSw; obtain ⟨g0, g1, g2, g3, g4⟩ := HK1.out _ hSw; obtain ⟨u0, u1, u2⟩ := HU.out _ hSw; go_simp <;> with_reducible rfl)
        try simp only [Act.put, List.setIfInBounds_toArray, List.set_cons_zero, List.set_cons_succ]
        refine wpAnyH_take (i := 3) (oi := { dst := some 16, op := _, type := _, pos := _, after := _, guard := _ }) (v := ?_) rfl (by kernel_rfl) (by kernel_rfl) (by kernel_rfl) (fun _ _ _ h => h) (Or.inl ⟨by rfl, ?_⟩) hHeld ?_
        rotate_left
        · (intro w hSw; obtain ⟨g0, g1, g2, g3, g4⟩ := HK1.out _ hSw; obtain ⟨u0, u1, u2⟩ := HU.out _ hSw; go_simp <;> with_reducible rfl)
        try simp only [Act.put, List.setIfInBounds_toArray, List.set_cons_zero, List.set_cons_succ]
        refine wpAnyH_take (i := 4) (oi := { dst := some 17, op := _, type := _, pos := _, after := _, guard := _ }) (v := ?_) rfl (by kernel_rfl) (by kernel_rfl) (by kernel_rfl) (fun _ _ _ h => h) (Or.inl ⟨by rfl, ?_⟩) hHeld ?_
        rotate_left
        · (intro w hSw; obtain ⟨g0, g1, g2, g3, g4⟩ := HK1.out _ hSw; obtain ⟨u0, u1, u2⟩ := HU.out _ hSw; go_simp <;> with_reducible rfl)
        try simp only [Act.put, List.setIfInBounds_toArray, List.set_cons_zero, List.set_cons_succ]
        refine wpAnyH_take (i := 5) (oi := { dst := some 18, op := _, type := _, pos := _, after := _, guard := _ }) (v := ?_) rfl (by kernel_rfl) (by kernel_rfl) (by kernel_rfl) (fun _ _ _ h => h) (Or.inl ⟨by rfl, ?_⟩) hHeld ?_
        rotate_left
        · (intro w hSw; obtain ⟨g0, g1, g2, g3, g4⟩ := HK1.out _ hSw; obtain ⟨u0, u1, u2⟩ := HU.out _ hSw; go_simp <;> with_reducible rfl)
        try simp only [Act.put, List.setIfInBounds_toArray, List.set_cons_zero, List.set_cons_succ]
        refine wpAnyH_take (i := 6) (oi := { dst := some 19, op := _, type := _, pos := _, after := _, guard := _ }) (v := ?_) rfl (by kernel_rfl) (by kernel_rfl) (by kernel_rfl) (fun _ _ _ h => h) (Or.inl ⟨by rfl, ?_⟩) hHeld ?_
        rotate_left
        · (intro w hSw; obtain ⟨g0, g1, g2, g3, g4⟩ := HK1.out _ hSw; obtain ⟨u0, u1, u2⟩ := HU.out _ hSw; go_simp <;> with_reducible rfl)
        try simp only [Act.put, List.setIfInBounds_toArray, List.set_cons_zero, List.set_cons_succ]
        refine wpAnyH_done (by kernel_rfl) ?_ _
        have hB2 := hB.trans (hHeld.mono hsz)
        go_wp2_with fail
        go_roundw
        case rel => exact ⟨k + 1, by omega, by go_num, HN.out, hB2⟩
        case measure => simp [intOf]; omega
    · have hfn := find_none (p := ofC a c) fun j hj => hno j hj (by omega)
      have HF := Lib.hid (show findC l a c = Ch.zero ∧ hasC l a c = false from ⟨by rw [findC, pickL, hfn]; rfl, by rw [hasC, hfn]; rfl⟩)
      obtain ⟨⟨lb, cb⟩, hfz⟩ := HZ.out wr hB
      have q0 := cb 0
      have q1 := cb 1
      have q2 := cb 2
      have q3 := cb 3
      have q4 := cb 4
      simp at q0 q1 q2 q3 q4
      have hcs := @cell_set
      have hB2 := hB0.trans (hB.mono (by omega))
      clear cb hno hfn HZ
      go_wp2_with fail
      refine bodyPost_ret (v := .tuple #[Ch.zero.val, .bool false]) ?_ rfl ⟨?_, ?_⟩
      · simp [results, Try.results35, go_sem, q0, q1, q2, q3, q4, hfz, Ch.val, Ch.zero]
      · rw [HF.out.1, HF.out.2]
      · repeat' (first | with_reducible exact hB2 | with_reducible refine Below.setCell ?_ ?_ _ | with_reducible refine Below.alloc ?_ ?_ _)
        all_goals first | (simp; done) | (simp; omega)
end Go.Proofs.Ytniapgcohihkhaa
