import Derived.Test.YtlbccpiadmcpjaaNd06
section
namespace Go.Proofs.Ytlbccpiadmcpjaa
open Go.ChangeShapes Go.WideShapes Go.ChangeAt Go.RowKit
set_option linter.unusedVariables false
set_option linter.unusedSimpArgs false

set_option maxHeartbeats 4000000 in
set_option maxRecDepth 100000 in
theorem idx_un (A : Option Addr) (cap : Nat) (l : List Un) (u : Un) (w : World) (hl : l.length ≤ 1000000) (hs : Sl w A (rc Un.cells l)) :
    Calls Try.prog 37 #[.slice A l.length cap, u.val] w fun e w' => e = .returned (.int .i64 (atL (isU u) l)) ∧ Below w.heap.size w w' := by
  have hB0 := since_alloc (Below.refl _ w) (.cells u.cells.toArray 31)
  have hU0 := Un.Bx.new w u
  have hs0 := hs.alloc (.cells u.cells.toArray 31)
  unfold Un.val
  go_enter Try.func37, Try.ntmps37
  go_upto_region 1 with fail
  unfold Un.cells at hB0 hU0 hs0
  generalize hWW : w.alloc (.cells #[.int .i64 u.ac, .int .i64 u.cl] 31) = W at *
  clear hWW hs
  have hBW := hB0
  have hWs := hBW.size
  have hsW := hs0
  have HUW : Hid (∀ V, Below W.heap.size W V → Un.Bx V w.heap.size u) := Lib.hid fun V hV => hU0.below hV
  clear hB0 hU0 hs0
  go_wp2_with fail
  go_loopw [8] (fun i wr => ∃ k : Nat, k ≤ l.length ∧ i = .int .i64 k ∧ (∀ j, (hj : j < l.length) → j < k → isU u l[j] = false) ∧ Below W.heap.size W wr) (fun i _ => l.length - (intOf i).toNat)
  case atStart => exact ⟨0, by omega, rfl, fun j hj h => absurd h (by omega), Below.refl _ _⟩
  case round =>
    obtain ⟨k, hk, rfl, hno, hB⟩ := hrel
    have HU : Hid (∀ V, Below wr.heap.size wr V → Un.Bx V w.heap.size u) := Lib.hid fun V hV => (HUW.out wr hB).below hV
    have HBW := hBW.trans (hB.mono hWs)
    by_cases hlt : k < l.length
    · obtain ⟨b, o, rfl, hbw, hg⟩ := (hsW.below hB).un hlt
      have HX : Hid (∀ V, Below wr.heap.size wr V → l[k].at V b (o + k * 2)) := Lib.hid fun V hV => Un.at_keep (w := wr) hg fun i => hV.cell (p := ⟨b, i, none⟩) hbw
      have hlk : (k : Int) < (l.length : Int) := by omega
      have hge : (0 : Int) ≤ (k : Int) := by omega
      have HQ : Hid (if isU u l[k] = true then (∀ j, (hj : j < k) → isU u l[j] = false) else ∀ j, (hj : j < l.length) → j < k + 1 → isU u l[j] = false) := Lib.hid (by
        split
        · exact fun j hj => hno j (by omega) hj
        · rename_i h
          intro j hj hjk
          rcases Nat.lt_or_ge j k with h' | h'
          · exact hno j hj h'
          · obtain rfl : j = k := by omega
            simpa using h)
      have HK : Hid (∀ y, l[k] = y → isU u y = true → isU u l[k] = true) := Lib.hid (fun y h1 h2 => by rw [h1]; exact h2)
      obtain ⟨y, hy⟩ : ∃ y, l[k] = y := ⟨_, rfl⟩
      rw [hy] at HX HQ
      have HY := Lib.hid hy
      clear hno hg hy hbw
      obtain ⟨xa, xc⟩ := y
      obtain ⟨ua, uc⟩ := u
      unfold Un.at at HX
      simp only at HX
      by_cases d0 : ua = xa
      · subst d0
        by_cases d1 : uc = xc
        · subst d1
          have HE := HQ.out
          rw [if_pos (by simp [isU])] at HE
          have HE := Lib.hid HE
          clear HQ
          go_wp2_with fail
          refine wp_region_held_drew (S := (fun V => Below wr.heap.size wr V)) (by kernel_rfl) (by exact (Below.refl _ _).drew) (fun hHeld => ?_)
          refine wpAnyH_take (i := 0) (oi := { dst := some 11, op := _, type := _, pos := _, after := _, guard := _ }) (v := ?_) rfl (by kernel_rfl) (by kernel_rfl) (by kernel_rfl) (fun _ _ _ h => h) (Or.inl ⟨by rfl, ?_⟩) hHeld ?_
          rotate_left
          · (intro w hSw; obtain ⟨u0, u1⟩ := (HU.out _ hSw).got; simp only at u0 u1; obtain ⟨n0, n1⟩ := HX.out _ hSw; go_simp <;> with_reducible rfl)
          try simp only [Act.put, List.setIfInBounds_toArray, List.set_cons_zero, List.set_cons_succ]
          refine wpAnyH_take (i := 1) (oi := { dst := some 12, op := _, type := _, pos := _, after := _, guard := _ }) (v := ?_) rfl (by kernel_rfl) (by kernel_rfl) (by kernel_rfl) (fun _ _ _ h => h) (Or.inl ⟨by rfl, ?_⟩) hHeld ?_
          rotate_left
          · (intro w hSw; obtain ⟨u0, u1⟩ := (HU.out _ hSw).got; simp only at u0 u1; obtain ⟨n0, n1⟩ := HX.out _ hSw; go_simp <;> with_reducible rfl)
          try simp only [Act.put, List.setIfInBounds_toArray, List.set_cons_zero, List.set_cons_succ]
          refine wpAnyH_take (i := 2) (oi := { dst := some 13, op := _, type := _, pos := _, after := _, guard := _ }) (v := ?_) rfl (by kernel_rfl) (by kernel_rfl) (by kernel_rfl) (fun _ _ _ h => h) (Or.inl ⟨by rfl, ?_⟩) hHeld ?_
          rotate_left
          · (intro w hSw; obtain ⟨u0, u1⟩ := (HU.out _ hSw).got; simp only at u0 u1; obtain ⟨n0, n1⟩ := HX.out _ hSw; go_simp <;> with_reducible rfl)
          try simp only [Act.put, List.setIfInBounds_toArray, List.set_cons_zero, List.set_cons_succ]
          refine wpAnyH_take (i := 3) (oi := { dst := some 14, op := _, type := _, pos := _, after := _, guard := _ }) (v := ?_) rfl (by kernel_rfl) (by kernel_rfl) (by kernel_rfl) (fun _ _ _ h => h) (Or.inl ⟨by rfl, ?_⟩) hHeld ?_
          rotate_left
          · (intro w hSw; obtain ⟨u0, u1⟩ := (HU.out _ hSw).got; simp only at u0 u1; obtain ⟨n0, n1⟩ := HX.out _ hSw; go_simp <;> with_reducible rfl)
          try simp only [Act.put, List.setIfInBounds_toArray, List.set_cons_zero, List.set_cons_succ]
          refine wpAnyH_take (i := 4) (oi := { dst := some 15, op := _, type := _, pos := _, after := _, guard := _ }) (v := ?_) rfl (by kernel_rfl) (by kernel_rfl) (by kernel_rfl) (fun _ _ _ h => h) (Or.inl ⟨by rfl, ?_⟩) hHeld ?_
          rotate_left
          · (intro w hSw; obtain ⟨u0, u1⟩ := (HU.out _ hSw).got; simp only at u0 u1; obtain ⟨n0, n1⟩ := HX.out _ hSw; go_simp <;> with_reducible rfl)
          try simp only [Act.put, List.setIfInBounds_toArray, List.set_cons_zero, List.set_cons_succ]
          refine wpAnyH_take (i := 5) (oi := { dst := some 16, op := _, type := _, pos := _, after := _, guard := _ }) (v := ?_) rfl (by kernel_rfl) (by kernel_rfl) (by kernel_rfl) (fun _ _ _ h => h) (Or.inl ⟨by rfl, ?_⟩) hHeld ?_
          rotate_left
          · (intro w hSw; obtain ⟨u0, u1⟩ := (HU.out _ hSw).got; simp only at u0 u1; obtain ⟨n0, n1⟩ := HX.out _ hSw; go_simp <;> with_reducible rfl)
          try simp only [Act.put, List.setIfInBounds_toArray, List.set_cons_zero, List.set_cons_succ]
          refine wpAnyH_done (by kernel_rfl) ?_ _
          have hB2 := HBW.trans (hHeld.mono (Nat.le_trans hWs hB.size))
          go_wp2_with fail
          go_ret
          exact ⟨retI (atL_some hlt (fun j hj => HE.out j hj) (by rw [HY.out]; simp [isU])).symm, hB2⟩
        · have HN : Hid (∀ j, (hj : j < l.length) → j < k + 1 → isU ⟨ua, uc⟩ l[j] = false) := Lib.hid (by have := HQ.out; rw [if_neg (by simp [isU, d1])] at this; exact this)
          have d1b : (uc == xc) = false := by simpa using d1
          have d1c : (xc == uc) = false := by simpa using fun h : xc = uc => d1 h.symm
          clear HQ
          go_wp2_with fail
          refine wp_region_held_drew (S := (fun V => Below wr.heap.size wr V)) (by kernel_rfl) (by exact (Below.refl _ _).drew) (fun hHeld => ?_)
          refine wpAnyH_take (i := 0) (oi := { dst := some 11, op := _, type := _, pos := _, after := _, guard := _ }) (v := ?_) rfl (by kernel_rfl) (by kernel_rfl) (by kernel_rfl) (fun _ _ _ h => h) (Or.inl ⟨by rfl, ?_⟩) hHeld ?_
          rotate_left
          · (intro w hSw; obtain ⟨u0, u1⟩ := (HU.out _ hSw).got; simp only at u0 u1; obtain ⟨n0, n1⟩ := HX.out _ hSw; go_simp <;> with_reducible rfl)
          try simp only [Act.put, List.setIfInBounds_toArray, List.set_cons_zero, List.set_cons_succ]
          refine wpAnyH_take (i := 1) (oi := { dst := some 12, op := _, type := _, pos := _, after := _, guard := _ }) (v := ?_) rfl (by kernel_rfl) (by kernel_rfl) (by kernel_rfl) (fun _ _ _ h => h) (Or.inl ⟨by rfl, ?_⟩) hHeld ?_
          rotate_left
          · (intro w hSw; obtain ⟨u0, u1⟩ := (HU.out _ hSw).got; simp only at u0 u1; obtain ⟨n0, n1⟩ := HX.out _ hSw; go_simp <;> with_reducible rfl)
          try simp only [Act.put, List.setIfInBounds_toArray, List.set_cons_zero, List.set_cons_succ]
          refine wpAnyH_take (i := 2) (oi := { dst := some 13, op := _, type := _, pos := _, after := _, guard := _ }) (v := ?_) rfl (by kernel_rfl) (by kernel_rfl) (by kernel_rfl) (fun _ _ _ h => h) (Or.inl ⟨by rfl, ?_⟩) hHeld ?_
          rotate_left
          · (intro w hSw; obtain ⟨u0, u1⟩ := (HU.out _ hSw).got; simp only at u0 u1; obtain ⟨n0, n1⟩ := HX.out _ hSw; go_simp <;> with_reducible rfl)
          try simp only [Act.put, List.setIfInBounds_toArray, List.set_cons_zero, List.set_cons_succ]
          refine wpAnyH_take (i := 3) (oi := { dst := some 14, op := _, type := _, pos := _, after := _, guard := _ }) (v := ?_) rfl (by kernel_rfl) (by kernel_rfl) (by kernel_rfl) (fun _ _ _ h => h) (Or.inl ⟨by rfl, ?_⟩) hHeld ?_
          rotate_left
          · (intro w hSw; obtain ⟨u0, u1⟩ := (HU.out _ hSw).got; simp only at u0 u1; obtain ⟨n0, n1⟩ := HX.out _ hSw; go_simp <;> with_reducible rfl)
          try simp only [Act.put, List.setIfInBounds_toArray, List.set_cons_zero, List.set_cons_succ]
          refine wpAnyH_take (i := 4) (oi := { dst := some 15, op := _, type := _, pos := _, after := _, guard := _ }) (v := ?_) rfl (by kernel_rfl) (by kernel_rfl) (by kernel_rfl) (fun _ _ _ h => h) (Or.inl ⟨by rfl, ?_⟩) hHeld ?_
          rotate_left
          · (intro w hSw; obtain ⟨u0, u1⟩ := (HU.out _ hSw).got; simp only at u0 u1; obtain ⟨n0, n1⟩ := HX.out _ hSw; go_simp <;> with_reducible rfl)
          try simp only [Act.put, List.setIfInBounds_toArray, List.set_cons_zero, List.set_cons_succ]
          refine wpAnyH_take (i := 5) (oi := { dst := some 16, op := _, type := _, pos := _, after := _, guard := _ }) (v := ?_) rfl (by kernel_rfl) (by kernel_rfl) (by kernel_rfl) (fun _ _ _ h => h) (Or.inl ⟨by rfl, ?_⟩) hHeld ?_
          rotate_left
          · (intro w hSw; obtain ⟨u0, u1⟩ := (HU.out _ hSw).got; simp only at u0 u1; obtain ⟨n0, n1⟩ := HX.out _ hSw; go_simp <;> with_reducible rfl)
          try simp only [Act.put, List.setIfInBounds_toArray, List.set_cons_zero, List.set_cons_succ]
          refine wpAnyH_done (by kernel_rfl) ?_ _
          have hB2 := hB.trans (hHeld.mono hB.size)
          go_wp2_with fail
          go_roundw
          case rel => exact ⟨k + 1, by omega, by go_num, HN.out, hB2⟩
          case measure => simp [intOf]; omega
      · have HN : Hid (∀ j, (hj : j < l.length) → j < k + 1 → isU ⟨ua, uc⟩ l[j] = false) := Lib.hid (by have := HQ.out; rw [if_neg (by simp [isU, d0])] at this; exact this)
        have d0b : (ua == xa) = false := by simpa using d0
        have d0c : (xa == ua) = false := by simpa using fun h : xa = ua => d0 h.symm
        clear HQ
        go_wp2_with fail
        refine wp_region_held_drew (S := (fun V => Below wr.heap.size wr V)) (by kernel_rfl) (by exact (Below.refl _ _).drew) (fun hHeld => ?_)
        refine wpAnyH_take (i := 0) (oi := { dst := some 11, op := _, type := _, pos := _, after := _, guard := _ }) (v := ?_) rfl (by kernel_rfl) (by kernel_rfl) (by kernel_rfl) (fun _ _ _ h => h) (Or.inl ⟨by rfl, ?_⟩) hHeld ?_
        rotate_left
        · (intro w hSw; obtain ⟨u0, u1⟩ := (HU.out _ hSw).got; simp only at u0 u1; obtain ⟨n0, n1⟩ := HX.out _ hSw; go_simp <;> with_reducible rfl)
        try simp only [Act.put, List.setIfInBounds_toArray, List.set_cons_zero, List.set_cons_succ]
        refine wpAnyH_take (i := 1) (oi := { dst := some 12, op := _, type := _, pos := _, after := _, guard := _ }) (v := ?_) rfl (by kernel_rfl) (by kernel_rfl) (by kernel_rfl) (fun _ _ _ h => h) (Or.inl ⟨by rfl, ?_⟩) hHeld ?_
        rotate_left
        · (intro w hSw; obtain ⟨u0, u1⟩ := (HU.out _ hSw).got; simp only at u0 u1; obtain ⟨n0, n1⟩ := HX.out _ hSw; go_simp <;> with_reducible rfl)
        try simp only [Act.put, List.setIfInBounds_toArray, List.set_cons_zero, List.set_cons_succ]
        refine wpAnyH_take (i := 2) (oi := { dst := some 13, op := _, type := _, pos := _, after := _, guard := _ }) (v := ?_) rfl (by kernel_rfl) (by kernel_rfl) (by kernel_rfl) (fun _ _ _ h => h) (Or.inl ⟨by rfl, ?_⟩) hHeld ?_
        rotate_left
        · (intro w hSw; obtain ⟨u0, u1⟩ := (HU.out _ hSw).got; simp only at u0 u1; obtain ⟨n0, n1⟩ := HX.out _ hSw; go_simp <;> with_reducible rfl)
        try simp only [Act.put, List.setIfInBounds_toArray, List.set_cons_zero, List.set_cons_succ]
        refine wpAnyH_take (i := 3) (oi := { dst := some 14, op := _, type := _, pos := _, after := _, guard := _ }) (v := ?_) rfl (by kernel_rfl) (by kernel_rfl) (by kernel_rfl) (fun _ _ _ h => h) (Or.inl ⟨by rfl, ?_⟩) hHeld ?_
        rotate_left
        · (intro w hSw; obtain ⟨u0, u1⟩ := (HU.out _ hSw).got; simp only at u0 u1; obtain ⟨n0, n1⟩ := HX.out _ hSw; go_simp <;> with_reducible rfl)
        try simp only [Act.put, List.setIfInBounds_toArray, List.set_cons_zero, List.set_cons_succ]
        refine wpAnyH_take (i := 4) (oi := { dst := some 15, op := _, type := _, pos := _, after := _, guard := _ }) (v := ?_) rfl (by kernel_rfl) (by kernel_rfl) (by kernel_rfl) (fun _ _ _ h => h) (Or.inl ⟨by rfl, ?_⟩) hHeld ?_
        rotate_left
        · (intro w hSw; obtain ⟨u0, u1⟩ := (HU.out _ hSw).got; simp only at u0 u1; obtain ⟨n0, n1⟩ := HX.out _ hSw; go_simp <;> with_reducible rfl)
        try simp only [Act.put, List.setIfInBounds_toArray, List.set_cons_zero, List.set_cons_succ]
        refine wpAnyH_take (i := 5) (oi := { dst := some 16, op := _, type := _, pos := _, after := _, guard := _ }) (v := ?_) rfl (by kernel_rfl) (by kernel_rfl) (by kernel_rfl) (fun _ _ _ h => h) (Or.inl ⟨by rfl, ?_⟩) hHeld ?_
        rotate_left
        · (intro w hSw; obtain ⟨u0, u1⟩ := (HU.out _ hSw).got; simp only at u0 u1; obtain ⟨n0, n1⟩ := HX.out _ hSw; go_simp <;> with_reducible rfl)
        try simp only [Act.put, List.setIfInBounds_toArray, List.set_cons_zero, List.set_cons_succ]
        refine wpAnyH_done (by kernel_rfl) ?_ _
        have hB2 := hB.trans (hHeld.mono hB.size)
        go_wp2_with fail
        go_roundw
        case rel => exact ⟨k + 1, by omega, by go_num, HN.out, hB2⟩
        case measure => simp [intOf]; omega
    · obtain rfl : k = l.length := by omega
      have HE := Lib.hid (atL_none (p := isU u) fun j hj => hno j hj hj)
      clear hno
      go_wp2_with fail
      go_ret
      exact ⟨retI HE.out.symm, HBW⟩
set_option maxHeartbeats 1000000 in
set_option maxRecDepth 100000 in
theorem has_un (A : Option Addr) (cap : Nat) (l : List Un) (u : Un) (w : World) (hl : l.length ≤ 1000000) (hs : Sl w A (rc Un.cells l)) :
    Calls Try.prog 22 #[.slice A l.length cap, u.val] w fun e w' => e = .returned (.bool (decide (u ∈ l))) ∧ Below w.heap.size w w' := by
  have HI := Lib.hid (atU_in u l)
  have hB0 := since_alloc (Below.refl _ w) (.cells u.cells.toArray 31)
  have HX := idx_un A cap l u _ hl (hs.alloc (.cells u.cells.toArray 31))
  unfold Un.val Un.cells at *
  have HX := Lib.hid HX
  go_enter Try.func22, Try.ntmps22
  go_wp2_with fail
  refine HX.out.mono ?_
  rintro e w1 ⟨rfl, hb1⟩
  have hB1 := since_step hB0 hb1
  go_wp2_with fail
  go_ret
  exact ⟨retB HI.out, hB1⟩
set_option maxHeartbeats 4000000 in
set_option maxRecDepth 100000 in
theorem hasA_any (id mem kind : Int) (A : Option Addr) (cap : Nat) (L : List Nt) (u : Un) (w : World) (hl : L.length ≤ 900000) (hs : Sl w A (rc Nt.cells L)) :
    Calls Try.prog 21 #[.agg #[.int .i64 id, .int .i64 mem, .int .i64 kind, .slice A L.length cap], u.val] w fun e w' => e = .returned (.bool (hasU id kind L u)) ∧ Below w.heap.size w w' := by
  have hul := unL_len id kind L
  have HUN := Lib.hid (fun V h => units_any id mem kind A cap L V hl h)
  unfold hasU
  obtain ⟨l, hl2⟩ : ∃ l, unL id kind L = l := ⟨_, rfl⟩
  rw [hl2] at HUN hul ⊢
  clear hl2
  have hB0 := since_alloc (since_alloc (Below.refl _ w) (.cells #[.int .i64 id, .int .i64 mem, .int .i64 kind, .slice A L.length cap] 24)) (.cells #[.int .i64 u.ac, .int .i64 u.cl] 31)
  have hV0 : Ac.Bx ((w.alloc (.cells #[.int .i64 id, .int .i64 mem, .int .i64 kind, .slice A L.length cap] 24)).alloc (.cells #[.int .i64 u.ac, .int .i64 u.cl] 31)) w.heap.size ⟨id, mem, kind, A, L.length, cap⟩ := (Ac.Bx.new w ⟨id, mem, kind, A, L.length, cap⟩).below ((Below.refl _ _).alloc (Nat.le_refl _) (.cells #[.int .i64 u.ac, .int .i64 u.cl] 31))
  have hU0 : Un.Bx ((w.alloc (.cells #[.int .i64 id, .int .i64 mem, .int .i64 kind, .slice A L.length cap] 24)).alloc (.cells #[.int .i64 u.ac, .int .i64 u.cl] 31)) (w.heap.size + 1) u := by have h := Un.Bx.new (w.alloc (.cells #[.int .i64 id, .int .i64 mem, .int .i64 kind, .slice A L.length cap] 24)) u; rw [World.size_alloc] at h; exact h
  have hs0 := (hs.alloc (.cells #[.int .i64 id, .int .i64 mem, .int .i64 kind, .slice A L.length cap] 24)).alloc (.cells #[.int .i64 u.ac, .int .i64 u.cl] 31)
  unfold Un.val
  go_enter Try.func21, Try.ntmps21
  go_upto_region 1 with fail
  generalize hWW : (w.alloc (.cells #[.int .i64 id, .int .i64 mem, .int .i64 kind, .slice A L.length cap] 24)).alloc (.cells #[.int .i64 u.ac, .int .i64 u.cl] 31) = W at *
  clear hWW hs
  have hBW := hB0
  have hWs := hBW.size
  have hsW := hs0
  have HV : Hid (∀ V, Below W.heap.size W V → Ac.Bx V w.heap.size ⟨id, mem, kind, A, L.length, cap⟩) := Lib.hid fun V hV => hV0.below hV
  have HU : Hid (∀ V, Below W.heap.size W V → Un.Bx V (w.heap.size + 1) u) := Lib.hid fun V hV => hU0.below hV
  have HS : Hid (∀ V, Below W.heap.size W V → Sl V A (rc Nt.cells L)) := Lib.hid fun V hV => hs0.below hV
  have HHU := Lib.hid (fun V A' c' h => has_un A' c' l u V (by omega) h)
  unfold Un.val at HHU
  clear hU0 hV0 hs0 hB0 hsW
  go_wp2_with fail
  refine wp_region_held_drew (S := (fun V => Below W.heap.size W V)) (by kernel_rfl) (by exact (Below.refl _ _).drew) (fun hHeld => ?_)
  refine wpAnyH_take (i := 0) (oi := { dst := some 5, op := _, type := _, pos := _, after := _, guard := _ }) (v := ?_) rfl (by kernel_rfl) (by kernel_rfl) (by kernel_rfl) (fun _ _ _ h => h) (Or.inl ⟨by rfl, ?_⟩) hHeld ?_
  rotate_left
  · (intro w hSw; obtain ⟨q0, q1, q2, q3⟩ := (HV.out _ hSw).got; simp only at q0 q1 q2 q3; obtain ⟨u0, u1⟩ := (HU.out _ hSw).got; go_simp <;> with_reducible rfl)
  try simp only [Act.put, List.setIfInBounds_toArray, List.set_cons_zero, List.set_cons_succ]
  refine wpAnyH_take (i := 2) (oi := { dst := some 7, op := _, type := _, pos := _, after := _, guard := _ }) (v := ?_) rfl (by kernel_rfl) (by kernel_rfl) (by kernel_rfl) (fun _ _ _ h => h) (Or.inl ⟨by rfl, ?_⟩) hHeld ?_
  rotate_left
  · (intro w hSw; obtain ⟨q0, q1, q2, q3⟩ := (HV.out _ hSw).got; simp only at q0 q1 q2 q3; obtain ⟨u0, u1⟩ := (HU.out _ hSw).got; go_simp <;> with_reducible rfl)
  try simp only [Act.put, List.setIfInBounds_toArray, List.set_cons_zero, List.set_cons_succ]
  refine wpAnyH_ready (rs := [1]) (by kernel_rfl) (by simp) ?_
  refine AllReadyH.cons (o := { dst := some 6, op := _, type := _, pos := _, after := _, guard := _ }) rfl (fun K hK => ?_) AllReadyH.nil
  go_simp
  refine (HUN.out _ (HS.out _ hHeld)).mono ?_
  rintro e u1 ⟨⟨A1, c1, rfl, hown⟩, hk1⟩
  have hKeep := since_step hHeld hk1
  have hsu := Sl.of_own hown
  go_wp2_with fail
  refine hK.out _ _ (by (try dsimp only); exact hKeep) (fun hHeld => ?_)
  clear hK K hKeep
  try simp only [Act.put, List.setIfInBounds_toArray, List.set_cons_zero, List.set_cons_succ]
  refine wpAnyH_ready (rs := [3]) (by kernel_rfl) (by simp) ?_
  refine AllReadyH.cons (o := { dst := some 8, op := _, type := _, pos := _, after := _, guard := _ }) rfl (fun K hK => ?_) AllReadyH.nil
  go_simp
  refine (HHU.out _ A1 c1 hsu).mono ?_
  rintro e u2 ⟨rfl, hk2⟩
  have hKeep := since_step hHeld hk2
  go_wp2_with fail
  refine hK.out _ _ (by (try dsimp only); exact hKeep) (fun hHeld => ?_)
  clear hK K hKeep
  try simp only [Act.put, List.setIfInBounds_toArray, List.set_cons_zero, List.set_cons_succ]
  refine wpAnyH_take (i := 4) (oi := { dst := some 4, op := _, type := _, pos := _, after := _, guard := _ }) (v := ?_) rfl (by kernel_rfl) (by kernel_rfl) (by kernel_rfl) (fun _ _ _ h => h) (Or.inl ⟨by rfl, ?_⟩) hHeld ?_
  rotate_left
  · (intro w hSw; obtain ⟨q0, q1, q2, q3⟩ := (HV.out _ hSw).got; simp only at q0 q1 q2 q3; obtain ⟨u0, u1⟩ := (HU.out _ hSw).got; go_simp <;> with_reducible rfl)
  try simp only [Act.put, List.setIfInBounds_toArray, List.set_cons_zero, List.set_cons_succ]
  refine wpAnyH_done (by kernel_rfl) ?_ _
  have hB2 := hBW.trans (hHeld.mono hWs)
  go_wp2_with fail
  go_ret
  exact ⟨rfl, hB2⟩
end Go.Proofs.Ytlbccpiadmcpjaa
end
