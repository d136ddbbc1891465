import Derived.Test.YtpmnjojednbnpaaCr14
import Derived.Test.YtpmnjojednbnpaaCr20
section
namespace Go.Proofs.Ytpmnjojednbnpaa
open Go.ChangeShapes Go.WideShapes Go.ChangeAt Go.RowKit
set_option linter.unusedVariables false
set_option linter.unusedSimpArgs false

set_option maxHeartbeats 8000000 in
set_option maxRecDepth 100000 in
theorem rsamed34 (A B : Option Addr) (ca cb : Nat) (l : List Db) (w : World) (hl : l.length ≤ 100000) (ha : Sl w A (rc Db.cells l)) (hb : Sl w B (rc Db.cells l)) :
    Calls Try.prog 64 #[.slice A l.length ca, .slice B l.length cb] w fun e w' => e = .returned (.bool true) ∧ Below w.heap.size w w' := by
  have hne : ((l.length : Int) != (l.length : Int)) = false := by simp
  have HA : Hid (∀ k, (hk : k < l.length) → ∃ b o, A = some ⟨b, o, none⟩ ∧ ∀ V, Below w.heap.size w V → (V.cell? ⟨b, o + k * 5, none⟩ = some (.int .i64 l[k].a) ∧ V.cell? ⟨b, o + k * 5 + 1, none⟩ = some (.int .i64 l[k].b) ∧ V.cell? ⟨b, o + k * 5 + 2, none⟩ = some (.int .i64 l[k].c) ∧ V.cell? ⟨b, o + k * 5 + 3, none⟩ = some (.int .i64 l[k].d) ∧ V.cell? ⟨b, o + k * 5 + 4, none⟩ = some (.int .i64 l[k].q)) ∧ b < V.heap.size) := Lib.hid fun k hk => by
    obtain ⟨b, o, e, hlt, hc⟩ := Sl.elem (m := 5) (fun x => rfl) (by decide) ha hk
    refine ⟨b, o, e, fun V hV => ⟨⟨?_, ?_, ?_, ?_, ?_⟩, Nat.lt_of_lt_of_le hlt hV.size⟩⟩
    · exact (hV.cell (p := ⟨b, o + k * 5, none⟩) hlt).trans (hc 0 _ rfl)
    · exact (hV.cell (p := ⟨b, o + k * 5 + 1, none⟩) hlt).trans (hc 1 _ rfl)
    · exact (hV.cell (p := ⟨b, o + k * 5 + 2, none⟩) hlt).trans (hc 2 _ rfl)
    · exact (hV.cell (p := ⟨b, o + k * 5 + 3, none⟩) hlt).trans (hc 3 _ rfl)
    · exact (hV.cell (p := ⟨b, o + k * 5 + 4, none⟩) hlt).trans (hc 4 _ rfl)
  have HB : Hid (∀ k, (hk : k < l.length) → ∃ b o, B = some ⟨b, o, none⟩ ∧ ∀ V, Below w.heap.size w V → (V.cell? ⟨b, o + k * 5, none⟩ = some (.int .i64 l[k].a) ∧ V.cell? ⟨b, o + k * 5 + 1, none⟩ = some (.int .i64 l[k].b) ∧ V.cell? ⟨b, o + k * 5 + 2, none⟩ = some (.int .i64 l[k].c) ∧ V.cell? ⟨b, o + k * 5 + 3, none⟩ = some (.int .i64 l[k].d) ∧ V.cell? ⟨b, o + k * 5 + 4, none⟩ = some (.int .i64 l[k].q)) ∧ b < V.heap.size) := Lib.hid fun k hk => by
    obtain ⟨b, o, e, hlt, hc⟩ := Sl.elem (m := 5) (fun x => rfl) (by decide) hb hk
    refine ⟨b, o, e, fun V hV => ⟨⟨?_, ?_, ?_, ?_, ?_⟩, Nat.lt_of_lt_of_le hlt hV.size⟩⟩
    · exact (hV.cell (p := ⟨b, o + k * 5, none⟩) hlt).trans (hc 0 _ rfl)
    · exact (hV.cell (p := ⟨b, o + k * 5 + 1, none⟩) hlt).trans (hc 1 _ rfl)
    · exact (hV.cell (p := ⟨b, o + k * 5 + 2, none⟩) hlt).trans (hc 2 _ rfl)
    · exact (hV.cell (p := ⟨b, o + k * 5 + 3, none⟩) hlt).trans (hc 3 _ rfl)
    · exact (hV.cell (p := ⟨b, o + k * 5 + 4, none⟩) hlt).trans (hc 4 _ rfl)
  clear ha hb
  go_enter Try.func64, Try.ntmps64
  go_wp2_with fail
  go_loopw [5] (fun iv wr => ∃ k : Nat, k ≤ l.length ∧ iv = .int .i64 (k : Int) ∧ Below w.heap.size w wr) (fun iv _ => l.length - (intOf iv).toNat)
  case atStart => exact ⟨0, by omega, rfl, Below.refl _ _⟩
  case round =>
    obtain ⟨k, hk, rfl, hBw⟩ := hrel
    by_cases hkl : k < l.length
    · have hk1 : (k : Int) < (l.length : Int) := by omega
      have hk0 : (0 : Int) ≤ (k : Int) := by omega
      obtain ⟨b1, o1, rfl, h1⟩ := HA.out k hkl
      obtain ⟨b2, o2, rfl, h2⟩ := HB.out k hkl
      have hsz : w.heap.size ≤ wr.heap.size := hBw.size
      clear HA HB
      generalize l[k] = y at h1 h2
      obtain ⟨fa, fb, fc, fd, fq⟩ := y
      simp only at h1 h2
      have HK1 : Hid (∀ V, Below wr.heap.size wr V → (V.cell? ⟨b1, o1 + k * 5, none⟩ = some (.int .i64 fa) ∧ V.cell? ⟨b1, o1 + k * 5 + 1, none⟩ = some (.int .i64 fb) ∧ V.cell? ⟨b1, o1 + k * 5 + 2, none⟩ = some (.int .i64 fc) ∧ V.cell? ⟨b1, o1 + k * 5 + 3, none⟩ = some (.int .i64 fd) ∧ V.cell? ⟨b1, o1 + k * 5 + 4, none⟩ = some (.int .i64 fq)) ∧ b1 < V.heap.size) := Lib.hid fun V hV => h1 V (hBw.trans (hV.mono hsz))
      have HK2 : Hid (∀ V, Below wr.heap.size wr V → (V.cell? ⟨b2, o2 + k * 5, none⟩ = some (.int .i64 fa) ∧ V.cell? ⟨b2, o2 + k * 5 + 1, none⟩ = some (.int .i64 fb) ∧ V.cell? ⟨b2, o2 + k * 5 + 2, none⟩ = some (.int .i64 fc) ∧ V.cell? ⟨b2, o2 + k * 5 + 3, none⟩ = some (.int .i64 fd) ∧ V.cell? ⟨b2, o2 + k * 5 + 4, none⟩ = some (.int .i64 fq)) ∧ b2 < V.heap.size) := Lib.hid fun V hV => h2 V (hBw.trans (hV.mono hsz))
      have HB := Lib.hid hBw
      clear h1 h2 hBw
      go_upto_region 6 with fail
      refine wp_region_held_drew (S := (fun V => Below wr.heap.size wr V)) (by kernel_rfl) (by exact (Below.refl _ _).drew) (fun hHeld => ?_)
      refine wpAnyH_take (i := 0) (oi := { dst := some 17, op := _, type := _, pos := _, after := _, guard := _ }) (v := ?_) rfl (by kernel_rfl) (by kernel_rfl) (by kernel_rfl) (fun _ _ _ h => h) (Or.inl ⟨by rfl, ?_⟩) hHeld ?_
      rotate_left
      · (intro w hSw; obtain ⟨⟨g0, g1, g2, g3, g4⟩, gl⟩ := HK1.out _ hSw; obtain ⟨⟨h0, h1, h2, h3, h4⟩, hl2⟩ := HK2.out _ hSw; go_simp <;> with_reducible rfl)
      try simp only [Act.put, List.setIfInBounds_toArray, List.set_cons_zero, List.set_cons_succ]
      refine wpAnyH_take (i := 1) (oi := { dst := some 18, op := _, type := _, pos := _, after := _, guard := _ }) (v := ?_) rfl (by kernel_rfl) (by kernel_rfl) (by kernel_rfl) (fun _ _ _ h => h) (Or.inl ⟨by rfl, ?_⟩) hHeld ?_
      rotate_left
      · (intro w hSw; obtain ⟨⟨g0, g1, g2, g3, g4⟩, gl⟩ := HK1.out _ hSw; obtain ⟨⟨h0, h1, h2, h3, h4⟩, hl2⟩ := HK2.out _ hSw; go_simp <;> with_reducible rfl)
      try simp only [Act.put, List.setIfInBounds_toArray, List.set_cons_zero, List.set_cons_succ]
      refine wpAnyH_take (i := 2) (oi := { dst := some 19, op := _, type := _, pos := _, after := _, guard := _ }) (v := ?_) rfl (by kernel_rfl) (by kernel_rfl) (by kernel_rfl) (fun _ _ _ h => h) (Or.inl ⟨by rfl, ?_⟩) hHeld ?_
      rotate_left
      · (intro w hSw; obtain ⟨⟨g0, g1, g2, g3, g4⟩, gl⟩ := HK1.out _ hSw; obtain ⟨⟨h0, h1, h2, h3, h4⟩, hl2⟩ := HK2.out _ hSw; go_simp <;> with_reducible rfl)
      try simp only [Act.put, List.setIfInBounds_toArray, List.set_cons_zero, List.set_cons_succ]
      refine wpAnyH_take (i := 3) (oi := { dst := some 20, op := _, type := _, pos := _, after := _, guard := _ }) (v := ?_) rfl (by kernel_rfl) (by kernel_rfl) (by kernel_rfl) (fun _ _ _ h => h) (Or.inl ⟨by rfl, ?_⟩) hHeld ?_
      rotate_left
      · (intro w hSw; obtain ⟨⟨g0, g1, g2, g3, g4⟩, gl⟩ := HK1.out _ hSw; obtain ⟨⟨h0, h1, h2, h3, h4⟩, hl2⟩ := HK2.out _ hSw; go_simp <;> with_reducible rfl)
      try simp only [Act.put, List.setIfInBounds_toArray, List.set_cons_zero, List.set_cons_succ]
      refine wpAnyH_take (i := 4) (oi := { dst := some 21, op := _, type := _, pos := _, after := _, guard := _ }) (v := ?_) rfl (by kernel_rfl) (by kernel_rfl) (by kernel_rfl) (fun _ _ _ h => h) (Or.inl ⟨by rfl, ?_⟩) hHeld ?_
      rotate_left
      · (intro w hSw; obtain ⟨⟨g0, g1, g2, g3, g4⟩, gl⟩ := HK1.out _ hSw; obtain ⟨⟨h0, h1, h2, h3, h4⟩, hl2⟩ := HK2.out _ hSw; go_simp <;> with_reducible rfl)
      try simp only [Act.put, List.setIfInBounds_toArray, List.set_cons_zero, List.set_cons_succ]
      refine wpAnyH_take (i := 5) (oi := { dst := some 22, op := _, type := _, pos := _, after := _, guard := _ }) (v := ?_) rfl (by kernel_rfl) (by kernel_rfl) (by kernel_rfl) (fun _ _ _ h => h) (Or.inl ⟨by rfl, ?_⟩) hHeld ?_
      rotate_left
      · (intro w hSw; obtain ⟨⟨g0, g1, g2, g3, g4⟩, gl⟩ := HK1.out _ hSw; obtain ⟨⟨h0, h1, h2, h3, h4⟩, hl2⟩ := HK2.out _ hSw; go_simp <;> with_reducible rfl)
      try simp only [Act.put, List.setIfInBounds_toArray, List.set_cons_zero, List.set_cons_succ]
      refine wpAnyH_take (i := 6) (oi := { dst := some 23, op := _, type := _, pos := _, after := _, guard := _ }) (v := ?_) rfl (by kernel_rfl) (by kernel_rfl) (by kernel_rfl) (fun _ _ _ h => h) (Or.inl ⟨by rfl, ?_⟩) hHeld ?_
      rotate_left
      · (intro w hSw; obtain ⟨⟨g0, g1, g2, g3, g4⟩, gl⟩ := HK1.out _ hSw; obtain ⟨⟨h0, h1, h2, h3, h4⟩, hl2⟩ := HK2.out _ hSw; go_simp <;> with_reducible rfl)
      try simp only [Act.put, List.setIfInBounds_toArray, List.set_cons_zero, List.set_cons_succ]
      refine wpAnyH_take (i := 7) (oi := { dst := some 24, op := _, type := _, pos := _, after := _, guard := _ }) (v := ?_) rfl (by kernel_rfl) (by kernel_rfl) (by kernel_rfl) (fun _ _ _ h => h) (Or.inl ⟨by rfl, ?_⟩) hHeld ?_
      rotate_left
      · (intro w hSw; obtain ⟨⟨g0, g1, g2, g3, g4⟩, gl⟩ := HK1.out _ hSw; obtain ⟨⟨h0, h1, h2, h3, h4⟩, hl2⟩ := HK2.out _ hSw; go_simp <;> with_reducible rfl)
      try simp only [Act.put, List.setIfInBounds_toArray, List.set_cons_zero, List.set_cons_succ]
      refine wpAnyH_take (i := 8) (oi := { dst := some 25, op := _, type := _, pos := _, after := _, guard := _ }) (v := ?_) rfl (by kernel_rfl) (by kernel_rfl) (by kernel_rfl) (fun _ _ _ h => h) (Or.inl ⟨by rfl, ?_⟩) hHeld ?_
      rotate_left
      · (intro w hSw; obtain ⟨⟨g0, g1, g2, g3, g4⟩, gl⟩ := HK1.out _ hSw; obtain ⟨⟨h0, h1, h2, h3, h4⟩, hl2⟩ := HK2.out _ hSw; go_simp <;> with_reducible rfl)
      try simp only [Act.put, List.setIfInBounds_toArray, List.set_cons_zero, List.set_cons_succ]
      refine wpAnyH_done (by kernel_rfl) ?_ _
      have hB2 := HB.out.trans (hHeld.mono hsz)
      go_wp2_with fail
      go_roundw
      case rel => exact ⟨k + 1, by omega, by go_num, hB2⟩
      case measure => simp [intOf]; omega
    · obtain rfl : k = l.length := by omega
      go_wp2_with fail
      go_ret
      exact ⟨rfl, hBw⟩
set_option maxHeartbeats 8000000 in
set_option maxRecDepth 100000 in
theorem rsamel34 (A B : Option Addr) (ca cb : Nat) (l : List Lo) (w : World) (hl : l.length ≤ 100000) (ha : Sl w A (rc Lo.cells l)) (hb : Sl w B (rc Lo.cells l)) :
    Calls Try.prog 75 #[.slice A l.length ca, .slice B l.length cb] w fun e w' => e = .returned (.bool true) ∧ Below w.heap.size w w' := by
  have hne : ((l.length : Int) != (l.length : Int)) = false := by simp
  have HA : Hid (∀ k, (hk : k < l.length) → ∃ b o, A = some ⟨b, o, none⟩ ∧ ∀ V, Below w.heap.size w V → (V.cell? ⟨b, o + k * 3, none⟩ = some (.int .i64 l[k].a) ∧ V.cell? ⟨b, o + k * 3 + 1, none⟩ = some (.int .i64 l[k].b) ∧ V.cell? ⟨b, o + k * 3 + 2, none⟩ = some (.int .i64 l[k].q)) ∧ b < V.heap.size) := Lib.hid fun k hk => by
    obtain ⟨b, o, e, hlt, hc⟩ := Sl.elem (m := 3) (fun x => rfl) (by decide) ha hk
    refine ⟨b, o, e, fun V hV => ⟨⟨?_, ?_, ?_⟩, Nat.lt_of_lt_of_le hlt hV.size⟩⟩
    · exact (hV.cell (p := ⟨b, o + k * 3, none⟩) hlt).trans (hc 0 _ rfl)
    · exact (hV.cell (p := ⟨b, o + k * 3 + 1, none⟩) hlt).trans (hc 1 _ rfl)
    · exact (hV.cell (p := ⟨b, o + k * 3 + 2, none⟩) hlt).trans (hc 2 _ rfl)
  have HB : Hid (∀ k, (hk : k < l.length) → ∃ b o, B = some ⟨b, o, none⟩ ∧ ∀ V, Below w.heap.size w V → (V.cell? ⟨b, o + k * 3, none⟩ = some (.int .i64 l[k].a) ∧ V.cell? ⟨b, o + k * 3 + 1, none⟩ = some (.int .i64 l[k].b) ∧ V.cell? ⟨b, o + k * 3 + 2, none⟩ = some (.int .i64 l[k].q)) ∧ b < V.heap.size) := Lib.hid fun k hk => by
    obtain ⟨b, o, e, hlt, hc⟩ := Sl.elem (m := 3) (fun x => rfl) (by decide) hb hk
    refine ⟨b, o, e, fun V hV => ⟨⟨?_, ?_, ?_⟩, Nat.lt_of_lt_of_le hlt hV.size⟩⟩
    · exact (hV.cell (p := ⟨b, o + k * 3, none⟩) hlt).trans (hc 0 _ rfl)
    · exact (hV.cell (p := ⟨b, o + k * 3 + 1, none⟩) hlt).trans (hc 1 _ rfl)
    · exact (hV.cell (p := ⟨b, o + k * 3 + 2, none⟩) hlt).trans (hc 2 _ rfl)
  clear ha hb
  go_enter Try.func75, Try.ntmps75
  go_wp2_with fail
  go_loopw [5] (fun iv wr => ∃ k : Nat, k ≤ l.length ∧ iv = .int .i64 (k : Int) ∧ Below w.heap.size w wr) (fun iv _ => l.length - (intOf iv).toNat)
  case atStart => exact ⟨0, by omega, rfl, Below.refl _ _⟩
  case round =>
    obtain ⟨k, hk, rfl, hBw⟩ := hrel
    by_cases hkl : k < l.length
    · have hk1 : (k : Int) < (l.length : Int) := by omega
      have hk0 : (0 : Int) ≤ (k : Int) := by omega
      obtain ⟨b1, o1, rfl, h1⟩ := HA.out k hkl
      obtain ⟨b2, o2, rfl, h2⟩ := HB.out k hkl
      have hsz : w.heap.size ≤ wr.heap.size := hBw.size
      clear HA HB
      generalize l[k] = y at h1 h2
      obtain ⟨fa, fb, fq⟩ := y
      simp only at h1 h2
      have HK1 : Hid (∀ V, Below wr.heap.size wr V → (V.cell? ⟨b1, o1 + k * 3, none⟩ = some (.int .i64 fa) ∧ V.cell? ⟨b1, o1 + k * 3 + 1, none⟩ = some (.int .i64 fb) ∧ V.cell? ⟨b1, o1 + k * 3 + 2, none⟩ = some (.int .i64 fq)) ∧ b1 < V.heap.size) := Lib.hid fun V hV => h1 V (hBw.trans (hV.mono hsz))
      have HK2 : Hid (∀ V, Below wr.heap.size wr V → (V.cell? ⟨b2, o2 + k * 3, none⟩ = some (.int .i64 fa) ∧ V.cell? ⟨b2, o2 + k * 3 + 1, none⟩ = some (.int .i64 fb) ∧ V.cell? ⟨b2, o2 + k * 3 + 2, none⟩ = some (.int .i64 fq)) ∧ b2 < V.heap.size) := Lib.hid fun V hV => h2 V (hBw.trans (hV.mono hsz))
      have HB := Lib.hid hBw
      clear h1 h2 hBw
      go_upto_region 6 with fail
      refine wp_region_held_drew (S := (fun V => Below wr.heap.size wr V)) (by kernel_rfl) (by exact (Below.refl _ _).drew) (fun hHeld => ?_)
      refine wpAnyH_take (i := 0) (oi := { dst := some 17, op := _, type := _, pos := _, after := _, guard := _ }) (v := ?_) rfl (by kernel_rfl) (by kernel_rfl) (by kernel_rfl) (fun _ _ _ h => h) (Or.inl ⟨by rfl, ?_⟩) hHeld ?_
      rotate_left
      · (intro w hSw; obtain ⟨⟨g0, g1, g2⟩, gl⟩ := HK1.out _ hSw; obtain ⟨⟨h0, h1, h2⟩, hl2⟩ := HK2.out _ hSw; go_simp <;> with_reducible rfl)
      try simp only [Act.put, List.setIfInBounds_toArray, List.set_cons_zero, List.set_cons_succ]
      refine wpAnyH_take (i := 1) (oi := { dst := some 18, op := _, type := _, pos := _, after := _, guard := _ }) (v := ?_) rfl (by kernel_rfl) (by kernel_rfl) (by kernel_rfl) (fun _ _ _ h => h) (Or.inl ⟨by rfl, ?_⟩) hHeld ?_
      rotate_left
      · (intro w hSw; obtain ⟨⟨g0, g1, g2⟩, gl⟩ := HK1.out _ hSw; obtain ⟨⟨h0, h1, h2⟩, hl2⟩ := HK2.out _ hSw; go_simp <;> with_reducible rfl)
      try simp only [Act.put, List.setIfInBounds_toArray, List.set_cons_zero, List.set_cons_succ]
      refine wpAnyH_take (i := 2) (oi := { dst := some 19, op := _, type := _, pos := _, after := _, guard := _ }) (v := ?_) rfl (by kernel_rfl) (by kernel_rfl) (by kernel_rfl) (fun _ _ _ h => h) (Or.inl ⟨by rfl, ?_⟩) hHeld ?_
      rotate_left
      · (intro w hSw; obtain ⟨⟨g0, g1, g2⟩, gl⟩ := HK1.out _ hSw; obtain ⟨⟨h0, h1, h2⟩, hl2⟩ := HK2.out _ hSw; go_simp <;> with_reducible rfl)
      try simp only [Act.put, List.setIfInBounds_toArray, List.set_cons_zero, List.set_cons_succ]
      refine wpAnyH_take (i := 3) (oi := { dst := some 20, op := _, type := _, pos := _, after := _, guard := _ }) (v := ?_) rfl (by kernel_rfl) (by kernel_rfl) (by kernel_rfl) (fun _ _ _ h => h) (Or.inl ⟨by rfl, ?_⟩) hHeld ?_
      rotate_left
      · (intro w hSw; obtain ⟨⟨g0, g1, g2⟩, gl⟩ := HK1.out _ hSw; obtain ⟨⟨h0, h1, h2⟩, hl2⟩ := HK2.out _ hSw; go_simp <;> with_reducible rfl)
      try simp only [Act.put, List.setIfInBounds_toArray, List.set_cons_zero, List.set_cons_succ]
      refine wpAnyH_take (i := 4) (oi := { dst := some 21, op := _, type := _, pos := _, after := _, guard := _ }) (v := ?_) rfl (by kernel_rfl) (by kernel_rfl) (by kernel_rfl) (fun _ _ _ h => h) (Or.inl ⟨by rfl, ?_⟩) hHeld ?_
      rotate_left
      · (intro w hSw; obtain ⟨⟨g0, g1, g2⟩, gl⟩ := HK1.out _ hSw; obtain ⟨⟨h0, h1, h2⟩, hl2⟩ := HK2.out _ hSw; go_simp <;> with_reducible rfl)
      try simp only [Act.put, List.setIfInBounds_toArray, List.set_cons_zero, List.set_cons_succ]
      refine wpAnyH_take (i := 5) (oi := { dst := some 22, op := _, type := _, pos := _, after := _, guard := _ }) (v := ?_) rfl (by kernel_rfl) (by kernel_rfl) (by kernel_rfl) (fun _ _ _ h => h) (Or.inl ⟨by rfl, ?_⟩) hHeld ?_
      rotate_left
      · (intro w hSw; obtain ⟨⟨g0, g1, g2⟩, gl⟩ := HK1.out _ hSw; obtain ⟨⟨h0, h1, h2⟩, hl2⟩ := HK2.out _ hSw; go_simp <;> with_reducible rfl)
      try simp only [Act.put, List.setIfInBounds_toArray, List.set_cons_zero, List.set_cons_succ]
      refine wpAnyH_take (i := 6) (oi := { dst := some 23, op := _, type := _, pos := _, after := _, guard := _ }) (v := ?_) rfl (by kernel_rfl) (by kernel_rfl) (by kernel_rfl) (fun _ _ _ h => h) (Or.inl ⟨by rfl, ?_⟩) hHeld ?_
      rotate_left
      · (intro w hSw; obtain ⟨⟨g0, g1, g2⟩, gl⟩ := HK1.out _ hSw; obtain ⟨⟨h0, h1, h2⟩, hl2⟩ := HK2.out _ hSw; go_simp <;> with_reducible rfl)
      try simp only [Act.put, List.setIfInBounds_toArray, List.set_cons_zero, List.set_cons_succ]
      refine wpAnyH_take (i := 7) (oi := { dst := some 24, op := _, type := _, pos := _, after := _, guard := _ }) (v := ?_) rfl (by kernel_rfl) (by kernel_rfl) (by kernel_rfl) (fun _ _ _ h => h) (Or.inl ⟨by rfl, ?_⟩) hHeld ?_
      rotate_left
      · (intro w hSw; obtain ⟨⟨g0, g1, g2⟩, gl⟩ := HK1.out _ hSw; obtain ⟨⟨h0, h1, h2⟩, hl2⟩ := HK2.out _ hSw; go_simp <;> with_reducible rfl)
      try simp only [Act.put, List.setIfInBounds_toArray, List.set_cons_zero, List.set_cons_succ]
      refine wpAnyH_take (i := 8) (oi := { dst := some 25, op := _, type := _, pos := _, after := _, guard := _ }) (v := ?_) rfl (by kernel_rfl) (by kernel_rfl) (by kernel_rfl) (fun _ _ _ h => h) (Or.inl ⟨by rfl, ?_⟩) hHeld ?_
      rotate_left
      · (intro w hSw; obtain ⟨⟨g0, g1, g2⟩, gl⟩ := HK1.out _ hSw; obtain ⟨⟨h0, h1, h2⟩, hl2⟩ := HK2.out _ hSw; go_simp <;> with_reducible rfl)
      try simp only [Act.put, List.setIfInBounds_toArray, List.set_cons_zero, List.set_cons_succ]
      refine wpAnyH_done (by kernel_rfl) ?_ _
      have hB2 := HB.out.trans (hHeld.mono hsz)
      go_wp2_with fail
      go_roundw
      case rel => exact ⟨k + 1, by omega, by go_num, hB2⟩
      case measure => simp [intOf]; omega
    · obtain rfl : k = l.length := by omega
      go_wp2_with fail
      go_ret
      exact ⟨rfl, hBw⟩
set_option maxHeartbeats 16000000 in
set_option maxRecDepth 100000 in
theorem rsamer34 (A B : Option Addr) (ca cb : Nat) (l m : List Rn) (w : World) (hl : l.length ≤ 100000) (hm : l.map Rn.pl = m.map Rn.pl) (hll : ∀ x ∈ l, x.lots.length ≤ 100000) (ha : Sl w A (rc Rn.cells l)) (hb : Sl w B (rc Rn.cells m)) (hxa : ∀ x ∈ l, Sl w x.A (rc Lo.cells x.lots)) (hxb : ∀ x ∈ m, Sl w x.A (rc Lo.cells x.lots)) :
    Calls Try.prog 65 #[.slice A l.length ca, .slice B m.length cb] w fun e w' => e = .returned (.bool true) ∧ Below w.heap.size w w' := by
  have hlm : m.length = l.length := by
    have := congrArg List.length hm
    rw [List.length_map, List.length_map] at this
    exact this.symm
  have hne : ((l.length : Int) != (l.length : Int)) = false := by simp
  have HA : Hid (∀ k, (hk : k < l.length) → ∃ b o, A = some ⟨b, o, none⟩ ∧ ∀ V, Below w.heap.size w V → (V.cell? ⟨b, o + k * 4, none⟩ = some (.int .i64 l[k].a) ∧ V.cell? ⟨b, o + k * 4 + 1, none⟩ = some (.int .i64 l[k].b) ∧ V.cell? ⟨b, o + k * 4 + 2, none⟩ = some (.int .i64 l[k].q) ∧ V.cell? ⟨b, o + k * 4 + 3, none⟩ = some (.slice l[k].A l[k].lots.length l[k].c)) ∧ b < V.heap.size ∧ Sl V l[k].A (rc Lo.cells l[k].lots)) := Lib.hid fun k hk => by
    obtain ⟨b, o, e, hlt, hc⟩ := Sl.elem (m := 4) (fun x => rfl) (by decide) ha hk
    refine ⟨b, o, e, fun V hV => ⟨⟨?_, ?_, ?_, ?_⟩, Nat.lt_of_lt_of_le hlt hV.size, (hxa _ (List.getElem_mem hk)).below hV⟩⟩
    · exact (hV.cell (p := ⟨b, o + k * 4, none⟩) hlt).trans (hc 0 _ rfl)
    · exact (hV.cell (p := ⟨b, o + k * 4 + 1, none⟩) hlt).trans (hc 1 _ rfl)
    · exact (hV.cell (p := ⟨b, o + k * 4 + 2, none⟩) hlt).trans (hc 2 _ rfl)
    · exact (hV.cell (p := ⟨b, o + k * 4 + 3, none⟩) hlt).trans (hc 3 _ rfl)
  have HB : Hid (∀ k, (hk : k < m.length) → ∃ b o, B = some ⟨b, o, none⟩ ∧ ∀ V, Below w.heap.size w V → (V.cell? ⟨b, o + k * 4, none⟩ = some (.int .i64 m[k].a) ∧ V.cell? ⟨b, o + k * 4 + 1, none⟩ = some (.int .i64 m[k].b) ∧ V.cell? ⟨b, o + k * 4 + 2, none⟩ = some (.int .i64 m[k].q) ∧ V.cell? ⟨b, o + k * 4 + 3, none⟩ = some (.slice m[k].A m[k].lots.length m[k].c)) ∧ b < V.heap.size ∧ Sl V m[k].A (rc Lo.cells m[k].lots)) := Lib.hid fun k hk => by
    obtain ⟨b, o, e, hlt, hc⟩ := Sl.elem (m := 4) (fun x => rfl) (by decide) hb hk
    refine ⟨b, o, e, fun V hV => ⟨⟨?_, ?_, ?_, ?_⟩, Nat.lt_of_lt_of_le hlt hV.size, (hxb _ (List.getElem_mem hk)).below hV⟩⟩
    · exact (hV.cell (p := ⟨b, o + k * 4, none⟩) hlt).trans (hc 0 _ rfl)
    · exact (hV.cell (p := ⟨b, o + k * 4 + 1, none⟩) hlt).trans (hc 1 _ rfl)
    · exact (hV.cell (p := ⟨b, o + k * 4 + 2, none⟩) hlt).trans (hc 2 _ rfl)
    · exact (hV.cell (p := ⟨b, o + k * 4 + 3, none⟩) hlt).trans (hc 3 _ rfl)
  have HPL : Hid (∀ k, (h1 : k < l.length) → (h2 : k < m.length) → l[k].pl = m[k].pl) := Lib.hid fun k h1 h2 => by
    have h3 : (l.map Rn.pl)[k]? = (m.map Rn.pl)[k]? := by rw [hm]
    rw [List.getElem?_map, List.getElem?_map, List.getElem?_eq_getElem h1, List.getElem?_eq_getElem h2] at h3
    simpa using h3
  have HLL := Lib.hid hll
  have HLM := Lib.hid hlm
  rw [hlm]
  clear ha hb hxa hxb hm hlm hll
  go_enter Try.func65, Try.ntmps65
  go_wp2_with fail
  go_loopw [5] (fun iv wr => ∃ k : Nat, k ≤ l.length ∧ iv = .int .i64 (k : Int) ∧ Below w.heap.size w wr) (fun iv _ => l.length - (intOf iv).toNat)
  case atStart => exact ⟨0, by omega, rfl, Below.refl _ _⟩
  case round =>
    obtain ⟨k, hk, rfl, hBw⟩ := hrel
    by_cases hkl : k < l.length
    · have hk1 : (k : Int) < (l.length : Int) := by omega
      have hk0 : (0 : Int) ≤ (k : Int) := by omega
      have hkm : k < m.length := by rw [HLM.out]; exact hkl
      have hpl := HPL.out k hkl hkm
      have hvl := HLL.out _ (List.getElem_mem hkl)
      obtain ⟨b1, o1, rfl, h1⟩ := HA.out k hkl
      obtain ⟨b2, o2, rfl, h2⟩ := HB.out k hkm
      have hsz : w.heap.size ≤ wr.heap.size := hBw.size
      clear HA HB HPL HLL HLM
      generalize l[k] = y at h1 hpl hvl
      generalize m[k] = z at h2 hpl
      clear hkm
      obtain ⟨xa, xb, xq, vA, vca, vl⟩ := y
      obtain ⟨ya, yb, yq, vB, vcb, yl⟩ := z
      simp only [Rn.pl, Rtn.mk.injEq] at hpl
      obtain ⟨rfl, rfl, rfl, rfl⟩ := hpl
      simp only at h1 h2 hvl
      have HK1 : Hid (∀ V, Below wr.heap.size wr V → (V.cell? ⟨b1, o1 + k * 4, none⟩ = some (.int .i64 xa) ∧ V.cell? ⟨b1, o1 + k * 4 + 1, none⟩ = some (.int .i64 xb) ∧ V.cell? ⟨b1, o1 + k * 4 + 2, none⟩ = some (.int .i64 xq) ∧ V.cell? ⟨b1, o1 + k * 4 + 3, none⟩ = some (.slice vA vl.length vca)) ∧ b1 < V.heap.size ∧ Sl V vA (rc Lo.cells vl)) := Lib.hid fun V hV => h1 V (hBw.trans (hV.mono hsz))
      have HK2 : Hid (∀ V, Below wr.heap.size wr V → (V.cell? ⟨b2, o2 + k * 4, none⟩ = some (.int .i64 xa) ∧ V.cell? ⟨b2, o2 + k * 4 + 1, none⟩ = some (.int .i64 xb) ∧ V.cell? ⟨b2, o2 + k * 4 + 2, none⟩ = some (.int .i64 xq) ∧ V.cell? ⟨b2, o2 + k * 4 + 3, none⟩ = some (.slice vB vl.length vcb)) ∧ b2 < V.heap.size ∧ Sl V vB (rc Lo.cells vl)) := Lib.hid fun V hV => h2 V (hBw.trans (hV.mono hsz))
      have HB := Lib.hid hBw
      clear h1 h2 hBw
      go_upto_region 6 with fail
      refine wp_region_held_drew (S := (fun V => Below wr.heap.size wr V)) (by kernel_rfl) (by exact (Below.refl _ _).drew) (fun hHeld => ?_)
      refine wpAnyH_take (i := 0) (oi := { dst := some 17, op := _, type := _, pos := _, after := _, guard := _ }) (v := ?_) rfl (by kernel_rfl) (by kernel_rfl) (by kernel_rfl) (fun _ _ _ h => h) (Or.inl ⟨by rfl, ?_⟩) hHeld ?_
      rotate_left
      · (intro w hSw; obtain ⟨⟨g0, g1, g2, g3⟩, gl, _⟩ := HK1.out _ hSw; obtain ⟨⟨h0, h1, h2, h3⟩, hl2, _⟩ := HK2.out _ hSw; go_simp <;> with_reducible rfl)
      try simp only [Act.put, List.setIfInBounds_toArray, List.set_cons_zero, List.set_cons_succ]
      refine wpAnyH_take (i := 1) (oi := { dst := some 18, op := _, type := _, pos := _, after := _, guard := _ }) (v := ?_) rfl (by kernel_rfl) (by kernel_rfl) (by kernel_rfl) (fun _ _ _ h => h) (Or.inl ⟨by rfl, ?_⟩) hHeld ?_
      rotate_left
      · (intro w hSw; obtain ⟨⟨g0, g1, g2, g3⟩, gl, _⟩ := HK1.out _ hSw; obtain ⟨⟨h0, h1, h2, h3⟩, hl2, _⟩ := HK2.out _ hSw; go_simp <;> with_reducible rfl)
      try simp only [Act.put, List.setIfInBounds_toArray, List.set_cons_zero, List.set_cons_succ]
      refine wpAnyH_take (i := 2) (oi := { dst := some 19, op := _, type := _, pos := _, after := _, guard := _ }) (v := ?_) rfl (by kernel_rfl) (by kernel_rfl) (by kernel_rfl) (fun _ _ _ h => h) (Or.inl ⟨by rfl, ?_⟩) hHeld ?_
      rotate_left
      · (intro w hSw; obtain ⟨⟨g0, g1, g2, g3⟩, gl, _⟩ := HK1.out _ hSw; obtain ⟨⟨h0, h1, h2, h3⟩, hl2, _⟩ := HK2.out _ hSw; go_simp <;> with_reducible rfl)
      try simp only [Act.put, List.setIfInBounds_toArray, List.set_cons_zero, List.set_cons_succ]
      refine wpAnyH_take (i := 3) (oi := { dst := some 20, op := _, type := _, pos := _, after := _, guard := _ }) (v := ?_) rfl (by kernel_rfl) (by kernel_rfl) (by kernel_rfl) (fun _ _ _ h => h) (Or.inl ⟨by rfl, ?_⟩) hHeld ?_
      rotate_left
      · (intro w hSw; obtain ⟨⟨g0, g1, g2, g3⟩, gl, _⟩ := HK1.out _ hSw; obtain ⟨⟨h0, h1, h2, h3⟩, hl2, _⟩ := HK2.out _ hSw; go_simp <;> with_reducible rfl)
      try simp only [Act.put, List.setIfInBounds_toArray, List.set_cons_zero, List.set_cons_succ]
      refine wpAnyH_take (i := 4) (oi := { dst := some 21, op := _, type := _, pos := _, after := _, guard := _ }) (v := ?_) rfl (by kernel_rfl) (by kernel_rfl) (by kernel_rfl) (fun _ _ _ h => h) (Or.inl ⟨by rfl, ?_⟩) hHeld ?_
      rotate_left
      · (intro w hSw; obtain ⟨⟨g0, g1, g2, g3⟩, gl, _⟩ := HK1.out _ hSw; obtain ⟨⟨h0, h1, h2, h3⟩, hl2, _⟩ := HK2.out _ hSw; go_simp <;> with_reducible rfl)
      try simp only [Act.put, List.setIfInBounds_toArray, List.set_cons_zero, List.set_cons_succ]
      refine wpAnyH_take (i := 5) (oi := { dst := some 22, op := _, type := _, pos := _, after := _, guard := _ }) (v := ?_) rfl (by kernel_rfl) (by kernel_rfl) (by kernel_rfl) (fun _ _ _ h => h) (Or.inl ⟨by rfl, ?_⟩) hHeld ?_
      rotate_left
      · (intro w hSw; obtain ⟨⟨g0, g1, g2, g3⟩, gl, _⟩ := HK1.out _ hSw; obtain ⟨⟨h0, h1, h2, h3⟩, hl2, _⟩ := HK2.out _ hSw; go_simp <;> with_reducible rfl)
      try simp only [Act.put, List.setIfInBounds_toArray, List.set_cons_zero, List.set_cons_succ]
      refine wpAnyH_take (i := 6) (oi := { dst := some 23, op := _, type := _, pos := _, after := _, guard := _ }) (v := ?_) rfl (by kernel_rfl) (by kernel_rfl) (by kernel_rfl) (fun _ _ _ h => h) (Or.inl ⟨by rfl, ?_⟩) hHeld ?_
      rotate_left
      · (intro w hSw; obtain ⟨⟨g0, g1, g2, g3⟩, gl, _⟩ := HK1.out _ hSw; obtain ⟨⟨h0, h1, h2, h3⟩, hl2, _⟩ := HK2.out _ hSw; go_simp <;> with_reducible rfl)
      try simp only [Act.put, List.setIfInBounds_toArray, List.set_cons_zero, List.set_cons_succ]
      refine wpAnyH_take (i := 7) (oi := { dst := some 24, op := _, type := _, pos := _, after := _, guard := _ }) (v := ?_) rfl (by kernel_rfl) (by kernel_rfl) (by kernel_rfl) (fun _ _ _ h => h) (Or.inl ⟨by rfl, ?_⟩) hHeld ?_
      rotate_left
      · (intro w hSw; obtain ⟨⟨g0, g1, g2, g3⟩, gl, _⟩ := HK1.out _ hSw; obtain ⟨⟨h0, h1, h2, h3⟩, hl2, _⟩ := HK2.out _ hSw; go_simp <;> with_reducible rfl)
      try simp only [Act.put, List.setIfInBounds_toArray, List.set_cons_zero, List.set_cons_succ]
      refine wpAnyH_take (i := 8) (oi := { dst := some 25, op := _, type := _, pos := _, after := _, guard := _ }) (v := ?_) rfl (by kernel_rfl) (by kernel_rfl) (by kernel_rfl) (fun _ _ _ h => h) (Or.inl ⟨by rfl, ?_⟩) hHeld ?_
      rotate_left
      · (intro w hSw; obtain ⟨⟨g0, g1, g2, g3⟩, gl, _⟩ := HK1.out _ hSw; obtain ⟨⟨h0, h1, h2, h3⟩, hl2, _⟩ := HK2.out _ hSw; go_simp <;> with_reducible rfl)
      try simp only [Act.put, List.setIfInBounds_toArray, List.set_cons_zero, List.set_cons_succ]
      refine wpAnyH_take (i := 9) (oi := { dst := some 26, op := _, type := _, pos := _, after := _, guard := _ }) (v := ?_) rfl (by kernel_rfl) (by kernel_rfl) (by kernel_rfl) (fun _ _ _ h => h) (Or.inl ⟨by rfl, ?_⟩) hHeld ?_
      rotate_left
      · (intro w hSw; obtain ⟨⟨g0, g1, g2, g3⟩, gl, _⟩ := HK1.out _ hSw; obtain ⟨⟨h0, h1, h2, h3⟩, hl2, _⟩ := HK2.out _ hSw; go_simp <;> with_reducible rfl)
      try simp only [Act.put, List.setIfInBounds_toArray, List.set_cons_zero, List.set_cons_succ]
      refine wpAnyH_take (i := 10) (oi := { dst := some 27, op := _, type := _, pos := _, after := _, guard := _ }) (v := ?_) rfl (by kernel_rfl) (by kernel_rfl) (by kernel_rfl) (fun _ _ _ h => h) (Or.inl ⟨by rfl, ?_⟩) hHeld ?_
      rotate_left
      · (intro w hSw; obtain ⟨⟨g0, g1, g2, g3⟩, gl, _⟩ := HK1.out _ hSw; obtain ⟨⟨h0, h1, h2, h3⟩, hl2, _⟩ := HK2.out _ hSw; go_simp <;> with_reducible rfl)
      try simp only [Act.put, List.setIfInBounds_toArray, List.set_cons_zero, List.set_cons_succ]
      refine wpAnyH_take (i := 11) (oi := { dst := some 28, op := _, type := _, pos := _, after := _, guard := _ }) (v := ?_) rfl (by kernel_rfl) (by kernel_rfl) (by kernel_rfl) (fun _ _ _ h => h) (Or.inl ⟨by rfl, ?_⟩) hHeld ?_
      rotate_left
      · (intro w hSw; obtain ⟨⟨g0, g1, g2, g3⟩, gl, _⟩ := HK1.out _ hSw; obtain ⟨⟨h0, h1, h2, h3⟩, hl2, _⟩ := HK2.out _ hSw; go_simp <;> with_reducible rfl)
      try simp only [Act.put, List.setIfInBounds_toArray, List.set_cons_zero, List.set_cons_succ]
      refine wpAnyH_take (i := 12) (oi := { dst := some 29, op := _, type := _, pos := _, after := _, guard := _ }) (v := ?_) rfl (by kernel_rfl) (by kernel_rfl) (by kernel_rfl) (fun _ _ _ h => h) (Or.inl ⟨by rfl, ?_⟩) hHeld ?_
      rotate_left
      · (intro w hSw; obtain ⟨⟨g0, g1, g2, g3⟩, gl, _⟩ := HK1.out _ hSw; obtain ⟨⟨h0, h1, h2, h3⟩, hl2, _⟩ := HK2.out _ hSw; go_simp <;> with_reducible rfl)
      try simp only [Act.put, List.setIfInBounds_toArray, List.set_cons_zero, List.set_cons_succ]
      refine wpAnyH_take (i := 13) (oi := { dst := some 30, op := _, type := _, pos := _, after := _, guard := _ }) (v := ?_) rfl (by kernel_rfl) (by kernel_rfl) (by kernel_rfl) (fun _ _ _ h => h) (Or.inl ⟨by rfl, ?_⟩) hHeld ?_
      rotate_left
      · (intro w hSw; obtain ⟨⟨g0, g1, g2, g3⟩, gl, _⟩ := HK1.out _ hSw; obtain ⟨⟨h0, h1, h2, h3⟩, hl2, _⟩ := HK2.out _ hSw; go_simp <;> with_reducible rfl)
      try simp only [Act.put, List.setIfInBounds_toArray, List.set_cons_zero, List.set_cons_succ]
      refine wpAnyH_take (i := 14) (oi := { dst := some 31, op := _, type := _, pos := _, after := _, guard := _ }) (v := ?_) rfl (by kernel_rfl) (by kernel_rfl) (by kernel_rfl) (fun _ _ _ h => h) (Or.inl ⟨by rfl, ?_⟩) hHeld ?_
      rotate_left
      · (intro w hSw; obtain ⟨⟨g0, g1, g2, g3⟩, gl, _⟩ := HK1.out _ hSw; obtain ⟨⟨h0, h1, h2, h3⟩, hl2, _⟩ := HK2.out _ hSw; go_simp <;> with_reducible rfl)
      try simp only [Act.put, List.setIfInBounds_toArray, List.set_cons_zero, List.set_cons_succ]
      refine wpAnyH_take (i := 15) (oi := { dst := some 32, op := _, type := _, pos := _, after := _, guard := _ }) (v := ?_) rfl (by kernel_rfl) (by kernel_rfl) (by kernel_rfl) (fun _ _ _ h => h) (Or.inl ⟨by rfl, ?_⟩) hHeld ?_
      rotate_left
      · (intro w hSw; obtain ⟨⟨g0, g1, g2, g3⟩, gl, _⟩ := HK1.out _ hSw; obtain ⟨⟨h0, h1, h2, h3⟩, hl2, _⟩ := HK2.out _ hSw; go_simp <;> with_reducible rfl)
      try simp only [Act.put, List.setIfInBounds_toArray, List.set_cons_zero, List.set_cons_succ]
      refine wpAnyH_take (i := 16) (oi := { dst := some 33, op := _, type := _, pos := _, after := _, guard := _ }) (v := ?_) rfl (by kernel_rfl) (by kernel_rfl) (by kernel_rfl) (fun _ _ _ h => h) (Or.inl ⟨by rfl, ?_⟩) hHeld ?_
      rotate_left
      · (intro w hSw; obtain ⟨⟨g0, g1, g2, g3⟩, gl, _⟩ := HK1.out _ hSw; obtain ⟨⟨h0, h1, h2, h3⟩, hl2, _⟩ := HK2.out _ hSw; go_simp <;> with_reducible rfl)
      try simp only [Act.put, List.setIfInBounds_toArray, List.set_cons_zero, List.set_cons_succ]
      refine wpAnyH_take (i := 17) (oi := { dst := some 34, op := _, type := _, pos := _, after := _, guard := _ }) (v := ?_) rfl (by kernel_rfl) (by kernel_rfl) (by kernel_rfl) (fun _ _ _ h => h) (Or.inl ⟨by rfl, ?_⟩) hHeld ?_
      rotate_left
      · (intro w hSw; obtain ⟨⟨g0, g1, g2, g3⟩, gl, _⟩ := HK1.out _ hSw; obtain ⟨⟨h0, h1, h2, h3⟩, hl2, _⟩ := HK2.out _ hSw; go_simp <;> with_reducible rfl)
      try simp only [Act.put, List.setIfInBounds_toArray, List.set_cons_zero, List.set_cons_succ]
      refine wpAnyH_take (i := 18) (oi := { dst := some 35, op := _, type := _, pos := _, after := _, guard := _ }) (v := ?_) rfl (by kernel_rfl) (by kernel_rfl) (by kernel_rfl) (fun _ _ _ h => h) (Or.inl ⟨by rfl, ?_⟩) hHeld ?_
      rotate_left
      · (intro w hSw; obtain ⟨⟨g0, g1, g2, g3⟩, gl, _⟩ := HK1.out _ hSw; obtain ⟨⟨h0, h1, h2, h3⟩, hl2, _⟩ := HK2.out _ hSw; go_simp <;> with_reducible rfl)
      try simp only [Act.put, List.setIfInBounds_toArray, List.set_cons_zero, List.set_cons_succ]
      refine wpAnyH_take (i := 19) (oi := { dst := some 36, op := _, type := _, pos := _, after := _, guard := _ }) (v := ?_) rfl (by kernel_rfl) (by kernel_rfl) (by kernel_rfl) (fun _ _ _ h => h) (Or.inl ⟨by rfl, ?_⟩) hHeld ?_
      rotate_left
      · (intro w hSw; obtain ⟨⟨g0, g1, g2, g3⟩, gl, _⟩ := HK1.out _ hSw; obtain ⟨⟨h0, h1, h2, h3⟩, hl2, _⟩ := HK2.out _ hSw; go_simp <;> with_reducible rfl)
      try simp only [Act.put, List.setIfInBounds_toArray, List.set_cons_zero, List.set_cons_succ]
      refine wpAnyH_take (i := 20) (oi := { dst := some 37, op := _, type := _, pos := _, after := _, guard := _ }) (v := ?_) rfl (by kernel_rfl) (by kernel_rfl) (by kernel_rfl) (fun _ _ _ h => h) (Or.inl ⟨by rfl, ?_⟩) hHeld ?_
      rotate_left
      · (intro w hSw; obtain ⟨⟨g0, g1, g2, g3⟩, gl, _⟩ := HK1.out _ hSw; obtain ⟨⟨h0, h1, h2, h3⟩, hl2, _⟩ := HK2.out _ hSw; go_simp <;> with_reducible rfl)
      try simp only [Act.put, List.setIfInBounds_toArray, List.set_cons_zero, List.set_cons_succ]
      refine wpAnyH_take (i := 21) (oi := { dst := some 38, op := _, type := _, pos := _, after := _, guard := _ }) (v := ?_) rfl (by kernel_rfl) (by kernel_rfl) (by kernel_rfl) (fun _ _ _ h => h) (Or.inl ⟨by rfl, ?_⟩) hHeld ?_
      rotate_left
      · (intro w hSw; obtain ⟨⟨g0, g1, g2, g3⟩, gl, _⟩ := HK1.out _ hSw; obtain ⟨⟨h0, h1, h2, h3⟩, hl2, _⟩ := HK2.out _ hSw; go_simp <;> with_reducible rfl)
      try simp only [Act.put, List.setIfInBounds_toArray, List.set_cons_zero, List.set_cons_succ]
      refine wpAnyH_take (i := 22) (oi := { dst := some 39, op := _, type := _, pos := _, after := _, guard := _ }) (v := ?_) rfl (by kernel_rfl) (by kernel_rfl) (by kernel_rfl) (fun _ _ _ h => h) (Or.inl ⟨by rfl, ?_⟩) hHeld ?_
      rotate_left
      · (intro w hSw; obtain ⟨⟨g0, g1, g2, g3⟩, gl, _⟩ := HK1.out _ hSw; obtain ⟨⟨h0, h1, h2, h3⟩, hl2, _⟩ := HK2.out _ hSw; go_simp <;> with_reducible rfl)
      try simp only [Act.put, List.setIfInBounds_toArray, List.set_cons_zero, List.set_cons_succ]
      refine wpAnyH_take (i := 23) (oi := { dst := some 40, op := _, type := _, pos := _, after := _, guard := _ }) (v := ?_) rfl (by kernel_rfl) (by kernel_rfl) (by kernel_rfl) (fun _ _ _ h => h) (Or.inl ⟨by rfl, ?_⟩) hHeld ?_
      rotate_left
      · (intro w hSw; obtain ⟨⟨g0, g1, g2, g3⟩, gl, _⟩ := HK1.out _ hSw; obtain ⟨⟨h0, h1, h2, h3⟩, hl2, _⟩ := HK2.out _ hSw; go_simp <;> with_reducible rfl)
      try simp only [Act.put, List.setIfInBounds_toArray, List.set_cons_zero, List.set_cons_succ]
      refine wpAnyH_take (i := 24) (oi := { dst := some 41, op := _, type := _, pos := _, after := _, guard := _ }) (v := ?_) rfl (by kernel_rfl) (by kernel_rfl) (by kernel_rfl) (fun _ _ _ h => h) (Or.inl ⟨by rfl, ?_⟩) hHeld ?_
      rotate_left
      · (intro w hSw; obtain ⟨⟨g0, g1, g2, g3⟩, gl, _⟩ := HK1.out _ hSw; obtain ⟨⟨h0, h1, h2, h3⟩, hl2, _⟩ := HK2.out _ hSw; go_simp <;> with_reducible rfl)
      try simp only [Act.put, List.setIfInBounds_toArray, List.set_cons_zero, List.set_cons_succ]
      refine wpAnyH_take (i := 25) (oi := { dst := some 42, op := _, type := _, pos := _, after := _, guard := _ }) (v := ?_) rfl (by kernel_rfl) (by kernel_rfl) (by kernel_rfl) (fun _ _ _ h => h) (Or.inl ⟨by rfl, ?_⟩) hHeld ?_
      rotate_left
      · (intro w hSw; obtain ⟨⟨g0, g1, g2, g3⟩, gl, _⟩ := HK1.out _ hSw; obtain ⟨⟨h0, h1, h2, h3⟩, hl2, _⟩ := HK2.out _ hSw; go_simp <;> with_reducible rfl)
      try simp only [Act.put, List.setIfInBounds_toArray, List.set_cons_zero, List.set_cons_succ]
      refine wpAnyH_take (i := 26) (oi := { dst := some 43, op := _, type := _, pos := _, after := _, guard := _ }) (v := ?_) rfl (by kernel_rfl) (by kernel_rfl) (by kernel_rfl) (fun _ _ _ h => h) (Or.inl ⟨by rfl, ?_⟩) hHeld ?_
      rotate_left
      · (intro w hSw; obtain ⟨⟨g0, g1, g2, g3⟩, gl, _⟩ := HK1.out _ hSw; obtain ⟨⟨h0, h1, h2, h3⟩, hl2, _⟩ := HK2.out _ hSw; go_simp <;> with_reducible rfl)
      try simp only [Act.put, List.setIfInBounds_toArray, List.set_cons_zero, List.set_cons_succ]
      refine wpAnyH_take (i := 27) (oi := { dst := some 44, op := _, type := _, pos := _, after := _, guard := _ }) (v := ?_) rfl (by kernel_rfl) (by kernel_rfl) (by kernel_rfl) (fun _ _ _ h => h) (Or.inl ⟨by rfl, ?_⟩) hHeld ?_
      rotate_left
      · (intro w hSw; obtain ⟨⟨g0, g1, g2, g3⟩, gl, _⟩ := HK1.out _ hSw; obtain ⟨⟨h0, h1, h2, h3⟩, hl2, _⟩ := HK2.out _ hSw; go_simp <;> with_reducible rfl)
      try simp only [Act.put, List.setIfInBounds_toArray, List.set_cons_zero, List.set_cons_succ]
      refine wpAnyH_take (i := 28) (oi := { dst := some 45, op := _, type := _, pos := _, after := _, guard := _ }) (v := ?_) rfl (by kernel_rfl) (by kernel_rfl) (by kernel_rfl) (fun _ _ _ h => h) (Or.inl ⟨by rfl, ?_⟩) hHeld ?_
      rotate_left
      · (intro w hSw; obtain ⟨⟨g0, g1, g2, g3⟩, gl, _⟩ := HK1.out _ hSw; obtain ⟨⟨h0, h1, h2, h3⟩, hl2, _⟩ := HK2.out _ hSw; go_simp <;> with_reducible rfl)
      try simp only [Act.put, List.setIfInBounds_toArray, List.set_cons_zero, List.set_cons_succ]
      refine wpAnyH_take (i := 29) (oi := { dst := some 46, op := _, type := _, pos := _, after := _, guard := _ }) (v := ?_) rfl (by kernel_rfl) (by kernel_rfl) (by kernel_rfl) (fun _ _ _ h => h) (Or.inl ⟨by rfl, ?_⟩) hHeld ?_
      rotate_left
      · (intro w hSw; obtain ⟨⟨g0, g1, g2, g3⟩, gl, _⟩ := HK1.out _ hSw; obtain ⟨⟨h0, h1, h2, h3⟩, hl2, _⟩ := HK2.out _ hSw; go_simp <;> with_reducible rfl)
      try simp only [Act.put, List.setIfInBounds_toArray, List.set_cons_zero, List.set_cons_succ]
      refine wpAnyH_take (i := 30) (oi := { dst := some 47, op := _, type := _, pos := _, after := _, guard := _ }) (v := ?_) rfl (by kernel_rfl) (by kernel_rfl) (by kernel_rfl) (fun _ _ _ h => h) (Or.inl ⟨by rfl, ?_⟩) hHeld ?_
      rotate_left
      · (intro w hSw; obtain ⟨⟨g0, g1, g2, g3⟩, gl, _⟩ := HK1.out _ hSw; obtain ⟨⟨h0, h1, h2, h3⟩, hl2, _⟩ := HK2.out _ hSw; go_simp <;> with_reducible rfl)
      try simp only [Act.put, List.setIfInBounds_toArray, List.set_cons_zero, List.set_cons_succ]
      refine wpAnyH_take (i := 31) (oi := { dst := some 48, op := _, type := _, pos := _, after := _, guard := _ }) (v := ?_) rfl (by kernel_rfl) (by kernel_rfl) (by kernel_rfl) (fun _ _ _ h => h) (Or.inl ⟨by rfl, ?_⟩) hHeld ?_
      rotate_left
      · (intro w hSw; obtain ⟨⟨g0, g1, g2, g3⟩, gl, _⟩ := HK1.out _ hSw; obtain ⟨⟨h0, h1, h2, h3⟩, hl2, _⟩ := HK2.out _ hSw; go_simp <;> with_reducible rfl)
      try simp only [Act.put, List.setIfInBounds_toArray, List.set_cons_zero, List.set_cons_succ]
      refine wpAnyH_take (i := 32) (oi := { dst := some 49, op := _, type := _, pos := _, after := _, guard := _ }) (v := ?_) rfl (by kernel_rfl) (by kernel_rfl) (by kernel_rfl) (fun _ _ _ h => h) (Or.inl ⟨by rfl, ?_⟩) hHeld ?_
      rotate_left
      · (intro w hSw; obtain ⟨⟨g0, g1, g2, g3⟩, gl, _⟩ := HK1.out _ hSw; obtain ⟨⟨h0, h1, h2, h3⟩, hl2, _⟩ := HK2.out _ hSw; go_simp <;> with_reducible rfl)
      try simp only [Act.put, List.setIfInBounds_toArray, List.set_cons_zero, List.set_cons_succ]
      refine wpAnyH_take (i := 33) (oi := { dst := some 50, op := _, type := _, pos := _, after := _, guard := _ }) (v := ?_) rfl (by kernel_rfl) (by kernel_rfl) (by kernel_rfl) (fun _ _ _ h => h) (Or.inl ⟨by rfl, ?_⟩) hHeld ?_
      rotate_left
      · (intro w hSw; obtain ⟨⟨g0, g1, g2, g3⟩, gl, _⟩ := HK1.out _ hSw; obtain ⟨⟨h0, h1, h2, h3⟩, hl2, _⟩ := HK2.out _ hSw; go_simp <;> with_reducible rfl)
      try simp only [Act.put, List.setIfInBounds_toArray, List.set_cons_zero, List.set_cons_succ]
      refine wpAnyH_take (i := 34) (oi := { dst := some 51, op := _, type := _, pos := _, after := _, guard := _ }) (v := ?_) rfl (by kernel_rfl) (by kernel_rfl) (by kernel_rfl) (fun _ _ _ h => h) (Or.inl ⟨by rfl, ?_⟩) hHeld ?_
      rotate_left
      · (intro w hSw; obtain ⟨⟨g0, g1, g2, g3⟩, gl, _⟩ := HK1.out _ hSw; obtain ⟨⟨h0, h1, h2, h3⟩, hl2, _⟩ := HK2.out _ hSw; go_simp <;> with_reducible rfl)
      try simp only [Act.put, List.setIfInBounds_toArray, List.set_cons_zero, List.set_cons_succ]
      refine wpAnyH_ready (rs := [35]) (by kernel_rfl) (by simp) ?_
      refine AllReadyH.cons (o := { dst := some 52, op := _, type := _, pos := _, after := _, guard := _ }) rfl (fun K hK => ?_) AllReadyH.nil
      go_simp
      obtain ⟨_, _, sA⟩ := HK1.out _ hHeld
      obtain ⟨_, _, sB⟩ := HK2.out _ hHeld
      refine (rsamel34 vA vB vca vcb vl _ hvl sA sB).mono ?_
      rintro e y1 ⟨rfl, hb1⟩
      have hKeep : Below wr.heap.size wr y1 := since_step hHeld hb1
      clear hb1 sA sB
      go_wp2_with fail
      refine hK.out _ _ (by (try dsimp only); exact hKeep) (fun hHeld => ?_)
      clear hK K hKeep
      try simp only [Act.put, List.setIfInBounds_toArray, List.set_cons_zero, List.set_cons_succ]
      refine wpAnyH_take (i := 36) (oi := { dst := some 53, op := _, type := _, pos := _, after := _, guard := _ }) (v := ?_) rfl (by kernel_rfl) (by kernel_rfl) (by kernel_rfl) (fun _ _ _ h => h) (Or.inl ⟨by rfl, ?_⟩) hHeld ?_
      rotate_left
      · (intro w hSw; obtain ⟨⟨g0, g1, g2, g3⟩, gl, _⟩ := HK1.out _ hSw; obtain ⟨⟨h0, h1, h2, h3⟩, hl2, _⟩ := HK2.out _ hSw; go_simp <;> with_reducible rfl)
      try simp only [Act.put, List.setIfInBounds_toArray, List.set_cons_zero, List.set_cons_succ]
      refine wpAnyH_take (i := 37) (oi := { dst := some 54, op := _, type := _, pos := _, after := _, guard := _ }) (v := ?_) rfl (by kernel_rfl) (by kernel_rfl) (by kernel_rfl) (fun _ _ _ h => h) (Or.inl ⟨by rfl, ?_⟩) hHeld ?_
      rotate_left
      · (intro w hSw; obtain ⟨⟨g0, g1, g2, g3⟩, gl, _⟩ := HK1.out _ hSw; obtain ⟨⟨h0, h1, h2, h3⟩, hl2, _⟩ := HK2.out _ hSw; go_simp <;> with_reducible rfl)
      try simp only [Act.put, List.setIfInBounds_toArray, List.set_cons_zero, List.set_cons_succ]
      refine wpAnyH_done (by kernel_rfl) ?_ _
      have hB2 := HB.out.trans (hHeld.mono hsz)
      go_wp2_with fail
      go_roundw
      case rel => exact ⟨k + 1, by omega, by go_num, hB2⟩
      case measure => simp [intOf]; omega
    · obtain rfl : k = l.length := by omega
      go_wp2_with fail
      go_ret
      exact ⟨rfl, hBw⟩
set_option maxHeartbeats 16000000 in
set_option maxRecDepth 100000 in
theorem rsameR34 (er : Int) (A1 A2 A3 B1 B2 B3 : Option Addr) (k1 k2 k3 j1 j2 j3 : Nat) (nums : List Int) (debs : List Db) (l m : List Rn) (w : World) (hn : nums.length ≤ 1000) (hd : debs.length ≤ 100000) (hl : l.length ≤ 100000) (hm : l.map Rn.pl = m.map Rn.pl) (hll : ∀ x ∈ l, x.lots.length ≤ 100000)
    (ha1 : Sl w A1 (ints .i64 nums)) (hb1 : Sl w B1 (ints .i64 nums)) (ha2 : Sl w A2 (rc Db.cells debs)) (hb2 : Sl w B2 (rc Db.cells debs)) (ha : Sl w A3 (rc Rn.cells l)) (hb : Sl w B3 (rc Rn.cells m)) (hxa : ∀ x ∈ l, Sl w x.A (rc Lo.cells x.lots)) (hxb : ∀ x ∈ m, Sl w x.A (rc Lo.cells x.lots)) :
    Calls Try.prog 23 #[.agg #[.int .i64 er, .slice A1 nums.length k1, .slice A2 debs.length k2, .slice A3 l.length k3], .agg #[.int .i64 er, .slice B1 nums.length j1, .slice B2 debs.length j2, .slice B3 m.length j3]] w fun e w' => e = .returned (.bool true) ∧ Below w.heap.size w w' := by
  have h1 := heap_alloc_new w (.cells #[.int .i64 er, .slice A1 nums.length k1, .slice A2 debs.length k2, .slice A3 l.length k3] 50)
  have h2 := heap_alloc_new (w.alloc (.cells #[.int .i64 er, .slice A1 nums.length k1, .slice A2 debs.length k2, .slice A3 l.length k3] 50)) (.cells #[.int .i64 er, .slice B1 nums.length j1, .slice B2 debs.length j2, .slice B3 m.length j3] 50)
  have hal1 := since_alloc (Below.refl _ w) (.cells #[.int .i64 er, .slice A1 nums.length k1, .slice A2 debs.length k2, .slice A3 l.length k3] 50)
  have hal2 := since_alloc (Below.refl _ (w.alloc (.cells #[.int .i64 er, .slice A1 nums.length k1, .slice A2 debs.length k2, .slice A3 l.length k3] 50))) (.cells #[.int .i64 er, .slice B1 nums.length j1, .slice B2 debs.length j2, .slice B3 m.length j3] 50)
  have h1 := (hal2.block w.heap.size (by rw [World.size_alloc]; omega)).trans h1
  rw [World.size_alloc] at h2
  have hal := since_step hal1 hal2
  obtain ⟨Y, hY⟩ : ∃ Y, (w.alloc (.cells #[.int .i64 er, .slice A1 nums.length k1, .slice A2 debs.length k2, .slice A3 l.length k3] 50)).alloc (.cells #[.int .i64 er, .slice B1 nums.length j1, .slice B2 debs.length j2, .slice B3 m.length j3] 50) = Y := ⟨_, rfl⟩
  rw [hY] at h1 h2 hal
  have HBX : Hid (∀ V, Below Y.heap.size Y V → (V.heap[w.heap.size]? = some (.cells #[.int .i64 er, .slice A1 nums.length k1, .slice A2 debs.length k2, .slice A3 l.length k3] 50 (0, 0)) ∧ V.heap[w.heap.size + 1]? = some (.cells #[.int .i64 er, .slice B1 nums.length j1, .slice B2 debs.length j2, .slice B3 m.length j3] 50 (0, 0))) ∧ Below w.heap.size w V) := Lib.hid fun V hV => ⟨⟨(hV.block _ (Array.getElem?_eq_some_iff.1 h1).1).trans h1, (hV.block _ (Array.getElem?_eq_some_iff.1 h2).1).trans h2⟩, hal.trans (hV.mono hal.size)⟩
  have HN : Hid (∀ V, Below Y.heap.size Y V → Calls Try.prog 47 #[.slice A1 nums.length k1, .slice B1 nums.length j1] V fun e w' => e = .returned (.bool true) ∧ Below V.heap.size V w') := Lib.hid fun V hV => rsamen_self A1 B1 k1 j1 nums V hn (ha1.below (HBX.out V hV).2) (hb1.below (HBX.out V hV).2)
  have HD : Hid (∀ V, Below Y.heap.size Y V → Calls Try.prog 64 #[.slice A2 debs.length k2, .slice B2 debs.length j2] V fun e w' => e = .returned (.bool true) ∧ Below V.heap.size V w') := Lib.hid fun V hV => rsamed34 A2 B2 k2 j2 debs V hd (ha2.below (HBX.out V hV).2) (hb2.below (HBX.out V hV).2)
  have HR : Hid (∀ V, Below Y.heap.size Y V → Calls Try.prog 65 #[.slice A3 l.length k3, .slice B3 m.length j3] V fun e w' => e = .returned (.bool true) ∧ Below V.heap.size V w') := Lib.hid fun V hV => rsamer34 A3 B3 k3 j3 l m V hl hm hll (ha.below (HBX.out V hV).2) (hb.below (HBX.out V hV).2) (fun x hx => (hxa x hx).below (HBX.out V hV).2) (fun x hx => (hxb x hx).below (HBX.out V hV).2)
  have HY := Lib.hid hY
  have hee : (er == er) = true := by simp
  clear h1 h2 hal1 hal2 hal ha1 hb1 ha2 hb2 ha hb hxa hxb hm hll hn hd hl hY
  go_enter Try.func23, Try.ntmps23
  go_upto_region 1 with fail
  rw [HY.out]
  obtain ⟨⟨x1, x2⟩, _⟩ := HBX.out Y (Below.refl _ _)
  have r0 : Y.cell? ⟨w.heap.size, 0, none⟩ = some (.int .i64 er) := (cell_of_row Y _ 0 _ _ (0, 0) x1).trans rfl
  have s0 : Y.cell? ⟨w.heap.size + 1, 0, none⟩ = some (.int .i64 er) := (cell_of_row Y _ 0 _ _ (0, 0) x2).trans rfl
  have r1 : Y.cell? ⟨w.heap.size, 1, none⟩ = some (.slice A1 nums.length k1) := (cell_of_row Y _ 1 _ _ (0, 0) x1).trans rfl
  have s1 : Y.cell? ⟨w.heap.size + 1, 1, none⟩ = some (.slice B1 nums.length j1) := (cell_of_row Y _ 1 _ _ (0, 0) x2).trans rfl
  have r2 : Y.cell? ⟨w.heap.size, 2, none⟩ = some (.slice A2 debs.length k2) := (cell_of_row Y _ 2 _ _ (0, 0) x1).trans rfl
  have s2 : Y.cell? ⟨w.heap.size + 1, 2, none⟩ = some (.slice B2 debs.length j2) := (cell_of_row Y _ 2 _ _ (0, 0) x2).trans rfl
  have r3 : Y.cell? ⟨w.heap.size, 3, none⟩ = some (.slice A3 l.length k3) := (cell_of_row Y _ 3 _ _ (0, 0) x1).trans rfl
  have s3 : Y.cell? ⟨w.heap.size + 1, 3, none⟩ = some (.slice B3 m.length j3) := (cell_of_row Y _ 3 _ _ (0, 0) x2).trans rfl
  have rl := (Array.getElem?_eq_some_iff.1 x1).1
  have sl := (Array.getElem?_eq_some_iff.1 x2).1
  clear x1 x2
  have HC := Lib.hid (HN.out Y (Below.refl _ _))
  go_wp2_with fail
  refine HC.out.mono ?_
  rintro e v1 ⟨rfl, hb1⟩
  clear r0 r1 r2 r3 s0 s1 s2 s3 rl sl
  obtain ⟨⟨x1, x2⟩, _⟩ := HBX.out v1 hb1
  have HB1 := Lib.hid hb1
  clear HC hb1
  have r0 : v1.cell? ⟨w.heap.size, 0, none⟩ = some (.int .i64 er) := (cell_of_row v1 _ 0 _ _ (0, 0) x1).trans rfl
  have s0 : v1.cell? ⟨w.heap.size + 1, 0, none⟩ = some (.int .i64 er) := (cell_of_row v1 _ 0 _ _ (0, 0) x2).trans rfl
  have r1 : v1.cell? ⟨w.heap.size, 1, none⟩ = some (.slice A1 nums.length k1) := (cell_of_row v1 _ 1 _ _ (0, 0) x1).trans rfl
  have s1 : v1.cell? ⟨w.heap.size + 1, 1, none⟩ = some (.slice B1 nums.length j1) := (cell_of_row v1 _ 1 _ _ (0, 0) x2).trans rfl
  have r2 : v1.cell? ⟨w.heap.size, 2, none⟩ = some (.slice A2 debs.length k2) := (cell_of_row v1 _ 2 _ _ (0, 0) x1).trans rfl
  have s2 : v1.cell? ⟨w.heap.size + 1, 2, none⟩ = some (.slice B2 debs.length j2) := (cell_of_row v1 _ 2 _ _ (0, 0) x2).trans rfl
  have r3 : v1.cell? ⟨w.heap.size, 3, none⟩ = some (.slice A3 l.length k3) := (cell_of_row v1 _ 3 _ _ (0, 0) x1).trans rfl
  have s3 : v1.cell? ⟨w.heap.size + 1, 3, none⟩ = some (.slice B3 m.length j3) := (cell_of_row v1 _ 3 _ _ (0, 0) x2).trans rfl
  have rl := (Array.getElem?_eq_some_iff.1 x1).1
  have sl := (Array.getElem?_eq_some_iff.1 x2).1
  clear x1 x2
  have HC := Lib.hid (HD.out v1 HB1.out)
  go_wp2_with fail
  refine HC.out.mono ?_
  rintro e v2 ⟨rfl, hb2⟩
  clear r0 r1 r2 r3 s0 s1 s2 s3 rl sl
  have hb2 := since_step HB1.out hb2
  obtain ⟨⟨x1, x2⟩, _⟩ := HBX.out v2 hb2
  have HB2 := Lib.hid hb2
  clear HC hb2
  have r0 : v2.cell? ⟨w.heap.size, 0, none⟩ = some (.int .i64 er) := (cell_of_row v2 _ 0 _ _ (0, 0) x1).trans rfl
  have s0 : v2.cell? ⟨w.heap.size + 1, 0, none⟩ = some (.int .i64 er) := (cell_of_row v2 _ 0 _ _ (0, 0) x2).trans rfl
  have r1 : v2.cell? ⟨w.heap.size, 1, none⟩ = some (.slice A1 nums.length k1) := (cell_of_row v2 _ 1 _ _ (0, 0) x1).trans rfl
  have s1 : v2.cell? ⟨w.heap.size + 1, 1, none⟩ = some (.slice B1 nums.length j1) := (cell_of_row v2 _ 1 _ _ (0, 0) x2).trans rfl
  have r2 : v2.cell? ⟨w.heap.size, 2, none⟩ = some (.slice A2 debs.length k2) := (cell_of_row v2 _ 2 _ _ (0, 0) x1).trans rfl
  have s2 : v2.cell? ⟨w.heap.size + 1, 2, none⟩ = some (.slice B2 debs.length j2) := (cell_of_row v2 _ 2 _ _ (0, 0) x2).trans rfl
  have r3 : v2.cell? ⟨w.heap.size, 3, none⟩ = some (.slice A3 l.length k3) := (cell_of_row v2 _ 3 _ _ (0, 0) x1).trans rfl
  have s3 : v2.cell? ⟨w.heap.size + 1, 3, none⟩ = some (.slice B3 m.length j3) := (cell_of_row v2 _ 3 _ _ (0, 0) x2).trans rfl
  have rl := (Array.getElem?_eq_some_iff.1 x1).1
  have sl := (Array.getElem?_eq_some_iff.1 x2).1
  clear x1 x2
  have HC := Lib.hid (HR.out v2 HB2.out)
  go_wp2_with fail
  refine HC.out.mono ?_
  rintro e v3 ⟨rfl, hb3⟩
  have hb3 := since_step HB2.out hb3
  have hBF := (HBX.out v3 hb3).2
  clear r0 r1 r2 r3 s0 s1 s2 s3 rl sl
  clear HC hb3
  go_wp2_with fail
  go_ret
  exact ⟨rfl, hBF⟩
end Go.Proofs.Ytpmnjojednbnpaa
end
