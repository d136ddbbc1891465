import Derived.Test.YtlbccpiadmcpjaaNd07
section
namespace Go.Proofs.Ytlbccpiadmcpjaa
open Go.ChangeShapes Go.WideShapes Go.ChangeAt Go.RowKit
set_option linter.unusedVariables false
set_option linter.unusedSimpArgs false

def nuL (id kind : Int) (L : List Nt) : List Un := if kind = 2 then [⟨id, 0⟩] else unL id kind L
def partsL (id kind : Int) (L : List Nt) (u : Un) : List Un := if u ∉ nuL id kind L then [] else if kind = 2 then unL id kind L else [u]
def unitU (id kind : Int) (L : List Nt) (u : Un) : Un × Bool := if hasU id kind L u = false then (⟨0, 0⟩, false) else if kind = 2 then (⟨id, 0⟩, true) else (u, true)
theorem nuL_len (id kind : Int) (L : List Nt) : (nuL id kind L).length ≤ L.length + 1 := by
  unfold nuL
  split
  · simp
  · exact unL_len id kind L
theorem partsL_len (id kind : Int) (L : List Nt) (u : Un) : (partsL id kind L u).length ≤ L.length + 1 := by
  unfold partsL
  split
  · simp
  · split
    · exact unL_len id kind L
    · simp
def UB (w : World) (g : Nat) : Prop := Bk w g #[.int .i64 0, .int .i64 0] ∧ w.frozen? ⟨g, 0, none⟩ = false ∧ w.frozen? ⟨g, 1, none⟩ = false
theorem UB.new (w : World) (t : TypeId) : UB (w.alloc (.cells #[.int .i64 0, .int .i64 0] t)) w.heap.size := ⟨Bk.new _ _ _, by simp, by simp⟩
theorem UB.below {w w' : World} {g : Nat} (h : UB w g) (hb : Below w.heap.size w w') : UB w' g := ⟨h.1.below hb, (hb.frozen (p := ⟨g, 0, none⟩) h.1.1).trans h.2.1, (hb.frozen (p := ⟨g, 1, none⟩) h.1.1).trans h.2.2⟩
theorem UB.got {w : World} {g : Nat} (h : UB w g) : g < w.heap.size ∧ w.cell? ⟨g, 0, none⟩ = some (.int .i64 0) ∧ w.cell? ⟨g, 1, none⟩ = some (.int .i64 0) ∧ w.frozen? ⟨g, 0, none⟩ = false ∧ w.frozen? ⟨g, 1, none⟩ = false := ⟨h.1.1, h.1.2 0, h.1.2 1, h.2.1, h.2.2⟩
set_option maxHeartbeats 8000000 in
set_option maxRecDepth 100000 in
theorem whole_any (id mem kind : Int) (A : Option Addr) (cap : Nat) (L : List Nt) (w : World) :
    Calls Try.prog 19 #[.agg #[.int .i64 id, .int .i64 mem, .int .i64 kind, .slice A L.length cap]] w fun e w' => e = .returned (.agg #[.int .i64 id, .int .i64 0]) ∧ Below w.heap.size w w' := by
  have hcs := @cell_set
  have hB0 := since_alloc (Below.refl _ w) (.cells #[.int .i64 id, .int .i64 mem, .int .i64 kind, .slice A L.length cap] 24)
  go_enter Try.func19, Try.ntmps19
  go_wp2
  refine bodyPost_ret (v := .agg #[.int .i64 id, .int .i64 0]) ?_ rfl ?_
  · simp [results, Try.results19, go_sem]
  · refine ⟨rfl, ?_⟩
    repeat' (first | with_reducible exact hB0 | with_reducible exact Below.refl _ _ | with_reducible refine Below.setCell ?_ ?_ _ | with_reducible refine since_alloc ?_ _)
    all_goals first | (simp; done) | (simp; omega)
set_option maxHeartbeats 8000000 in
set_option maxRecDepth 100000 in
theorem nunits_any (id mem kind : Int) (A : Option Addr) (cap : Nat) (L : List Nt) (w : World) (hl : L.length ≤ 900000) (hs : Sl w A (rc Nt.cells L)) :
    Calls Try.prog 9 #[.agg #[.int .i64 id, .int .i64 mem, .int .i64 kind, .slice A L.length cap]] w fun e w' => UnRes w.heap.size w' e (nuL id kind L) ∧ Below w.heap.size w w' := by
  have hB0 := since_alloc (Below.refl _ w) (.cells #[.int .i64 id, .int .i64 mem, .int .i64 kind, .slice A L.length cap] 24)
  have HK := Bk.new w #[.int .i64 id, .int .i64 mem, .int .i64 kind, .slice A L.length cap] 24
  have HU := Lib.hid (fun V (h : Below w.heap.size w V) => units_any id mem kind A cap L V hl (hs.below h))
  have HWH := Lib.hid (fun V => whole_any id mem kind A cap L V)
  clear hs
  by_cases hk : kind = 2
  · have hR : nuL id kind L = [⟨id, 0⟩] := if_pos hk
    rw [hR]
    have bk : (kind == 2) = true := by simpa using hk
    clear hR hk
    go_enter Try.func9, Try.ntmps9
    go_upto_region 1 with fail
    generalize hWW : w.alloc (.cells #[.int .i64 id, .int .i64 mem, .int .i64 kind, .slice A L.length cap] 24) = W at *
    clear hWW
    have p0 := HK.2 0
    have p1 := HK.2 1
    have p2 := HK.2 2
    have p3 := HK.2 3
    simp at p0 p1 p2 p3
    go_wp2_with fail
    refine (HWH.out _).mono ?_
    rintro e w1 ⟨rfl, hb⟩
    have hB1 := since_step hB0 hb
    clear p0 p1 p2 p3
    go_wp2_with fail
    go_ret
    exact ⟨⟨_, 1, rfl, own_lit (rc Un.cells [⟨id, 0⟩]) 31 hB1.size (by simp [rc, Un.cells]) (by show 1 ≤ maxLen; unfold maxLen; omega)⟩, since_alloc hB1 _⟩
  · have hR : nuL id kind L = unL id kind L := if_neg hk
    rw [hR]
    have bk : (kind == 2) = false := by simpa using hk
    clear hR hk
    go_enter Try.func9, Try.ntmps9
    go_upto_region 1 with fail
    generalize hWW : w.alloc (.cells #[.int .i64 id, .int .i64 mem, .int .i64 kind, .slice A L.length cap] 24) = W at *
    clear hWW
    have p0 := HK.2 0
    have p1 := HK.2 1
    have p2 := HK.2 2
    have p3 := HK.2 3
    simp at p0 p1 p2 p3
    go_wp2_with fail
    refine (HU.out _ hB0).mono ?_
    rintro e w1 ⟨⟨A', c', rfl, o1⟩, hb⟩
    have hB1 := since_step hB0 hb
    have o1 := own_base o1 hB0.size
    clear p0 p1 p2 p3
    go_wp2_with fail
    go_ret
    exact ⟨⟨A', c', rfl, o1⟩, hB1⟩
set_option maxHeartbeats 8000000 in
set_option maxRecDepth 100000 in
theorem nparts_any (id mem kind : Int) (A : Option Addr) (cap : Nat) (L : List Nt) (u : Un) (w : World) (hl : L.length ≤ 900000) (hs : Sl w A (rc Nt.cells L)) :
    Calls Try.prog 11 #[.agg #[.int .i64 id, .int .i64 mem, .int .i64 kind, .slice A L.length cap], u.val] w fun e w' => UnRes w.heap.size w' e (partsL id kind L u) ∧ Below w.heap.size w w' := by
  have hB0 := since_alloc (since_alloc (Below.refl _ w) (.cells #[.int .i64 id, .int .i64 mem, .int .i64 kind, .slice A L.length cap] 24)) (.cells #[.int .i64 u.ac, .int .i64 u.cl] 31)
  have K1 := (Bk.new w #[.int .i64 id, .int .i64 mem, .int .i64 kind, .slice A L.length cap] 24).alloc (.cells #[.int .i64 u.ac, .int .i64 u.cl] 31)
  have K2 := Bk.new (w.alloc (.cells #[.int .i64 id, .int .i64 mem, .int .i64 kind, .slice A L.length cap] 24)) #[.int .i64 u.ac, .int .i64 u.cl] 31
  rw [World.size_alloc] at K2
  have HNU := Lib.hid (fun V (h : Below w.heap.size w V) => nunits_any id mem kind A cap L V hl (hs.below h))
  have HU := Lib.hid (fun V (h : Below w.heap.size w V) => units_any id mem kind A cap L V hl (hs.below h))
  have HCO := fun A1 c1 V h => has_un A1 c1 (nuL id kind L) u V (by have := nuL_len id kind L; omega) h
  unfold Un.val Un.cells at *
  clear hs
  by_cases hm : u ∈ nuL id kind L
  · by_cases hk : kind = 2
    · have hR : partsL id kind L u = unL id kind L := by unfold partsL; rw [if_neg (by simpa using hm), if_pos hk]
      rw [hR]
      have hd : decide (u ∈ nuL id kind L) = true := decide_eq_true hm
      rw [hd] at HCO
      have HCO := Lib.hid HCO
      have bk : (kind == 2) = true := by simpa using hk
      clear hR hm hd hk
      generalize nuL id kind L = NU at *
      go_enter Try.func11, Try.ntmps11
      go_upto_region 1 with fail
      generalize hWW : (w.alloc (.cells #[.int .i64 id, .int .i64 mem, .int .i64 kind, .slice A L.length cap] 24)).alloc (.cells #[.int .i64 u.ac, .int .i64 u.cl] 31) = W at *
      clear hWW
      have HQ : Hid (∀ V, Below W.heap.size W V → (V.cell? ⟨w.heap.size, 0, none⟩ = some (.int .i64 id) ∧ V.cell? ⟨w.heap.size, 1, none⟩ = some (.int .i64 mem) ∧ V.cell? ⟨w.heap.size, 2, none⟩ = some (.int .i64 kind) ∧ V.cell? ⟨w.heap.size, 3, none⟩ = some (.slice A L.length cap)) ∧ (V.cell? ⟨w.heap.size + 1, 0, none⟩ = some (.int .i64 u.ac) ∧ V.cell? ⟨w.heap.size + 1, 1, none⟩ = some (.int .i64 u.cl))) := Lib.hid fun V h => ⟨⟨(K1.below h).2 0, (K1.below h).2 1, (K1.below h).2 2, (K1.below h).2 3⟩, ⟨(K2.below h).2 0, (K2.below h).2 1⟩⟩
      have HW0 : Hid (∀ V, Below W.heap.size W V → Below w.heap.size w V) := Lib.hid fun V h => hB0.trans (h.mono hB0.size)
      clear K1 K2
      go_wp2_with fail
      refine wp_region_held_drew (S := (fun V => Below W.heap.size W V)) (by kernel_rfl) (by exact (Below.refl _ _).drew) (fun hHeld => ?_)
      refine wpAnyH_take (i := 0) (oi := { dst := some 6, op := _, type := _, pos := _, after := _, guard := _ }) (v := ?_) rfl (by kernel_rfl) (by kernel_rfl) (by kernel_rfl) (fun _ _ _ h => h) (Or.inl ⟨by rfl, ?_⟩) hHeld ?_
      rotate_left
      · (intro w hSw; obtain ⟨⟨p0, p1, p2, p3⟩, ⟨u0, u1⟩⟩ := HQ.out _ (hSw); go_simp <;> with_reducible rfl)
      try simp only [Act.put, List.setIfInBounds_toArray, List.set_cons_zero, List.set_cons_succ]
      refine wpAnyH_take (i := 2) (oi := { dst := some 8, op := _, type := _, pos := _, after := _, guard := _ }) (v := ?_) rfl (by kernel_rfl) (by kernel_rfl) (by kernel_rfl) (fun _ _ _ h => h) (Or.inl ⟨by rfl, ?_⟩) hHeld ?_
      rotate_left
      · (intro w hSw; obtain ⟨⟨p0, p1, p2, p3⟩, ⟨u0, u1⟩⟩ := HQ.out _ (hSw); go_simp <;> with_reducible rfl)
      try simp only [Act.put, List.setIfInBounds_toArray, List.set_cons_zero, List.set_cons_succ]
      refine wpAnyH_ready (rs := [1]) (by kernel_rfl) (by simp) ?_
      refine AllReadyH.cons (o := { dst := some 7, op := _, type := _, pos := _, after := _, guard := _ }) rfl (fun K hK => ?_) AllReadyH.nil
      go_simp
      refine (HNU.out _ (HW0.out _ hHeld)).mono ?_
      rintro e x1 ⟨⟨A1, c1, rfl, o1⟩, hk1⟩
      have hKeep := since_step hHeld hk1
      have s1 := Sl.of_own o1
      clear o1
      go_wp2_with fail
      refine hK.out _ _ (by (try dsimp only); exact hKeep) (fun hHeld => ?_)
      clear hK K hKeep
      try simp only [Act.put, List.setIfInBounds_toArray, List.set_cons_zero, List.set_cons_succ]
      refine wpAnyH_ready (rs := [3]) (by kernel_rfl) (by simp) ?_
      refine AllReadyH.cons (o := { dst := some 9, op := _, type := _, pos := _, after := _, guard := _ }) rfl (fun K hK => ?_) AllReadyH.nil
      go_simp
      refine (HCO.out _ _ _ s1).mono ?_
      rintro e x2 ⟨rfl, hk1⟩
      have hKeep := since_step hHeld hk1
      go_wp2_with fail
      refine hK.out _ _ (by (try dsimp only); exact hKeep) (fun hHeld => ?_)
      clear hK K hKeep
      try simp only [Act.put, List.setIfInBounds_toArray, List.set_cons_zero, List.set_cons_succ]
      refine wpAnyH_take (i := 4) (oi := { dst := some 10, op := _, type := _, pos := _, after := _, guard := _ }) (v := ?_) rfl (by kernel_rfl) (by kernel_rfl) (by kernel_rfl) (fun _ _ _ h => h) (Or.inl ⟨by rfl, ?_⟩) hHeld ?_
      rotate_left
      · (intro w hSw; clear hSw; go_simp <;> with_reducible rfl)
      try simp only [Act.put, List.setIfInBounds_toArray, List.set_cons_zero, List.set_cons_succ]
      refine wpAnyH_take (i := 5) (oi := { dst := some 5, op := _, type := _, pos := _, after := _, guard := _ }) (v := ?_) rfl (by kernel_rfl) (by kernel_rfl) (by kernel_rfl) (fun _ _ _ h => h) (Or.inl ⟨by rfl, ?_⟩) hHeld ?_
      rotate_left
      · (intro w hSw; clear hSw; go_simp <;> with_reducible rfl)
      try simp only [Act.put, List.setIfInBounds_toArray, List.set_cons_zero, List.set_cons_succ]
      refine wpAnyH_done (by kernel_rfl) ?_ _
      have hBn := hB0.trans (hHeld.mono hB0.size)
      obtain ⟨⟨p0, p1, p2, p3⟩, ⟨u0, u1⟩⟩ := HQ.out _ hHeld
      go_wp2_with fail
      refine (HU.out _ hBn).mono ?_
      rintro e v1 ⟨⟨A', c', rfl, o2⟩, hb⟩
      have hB1 := since_step hBn hb
      have o2 := own_base o2 hBn.size
      clear p0 p1 p2 p3 u0 u1
      go_wp2_with fail
      go_ret
      exact ⟨⟨A', c', rfl, o2⟩, hB1⟩
    · have hR : partsL id kind L u = [u] := by unfold partsL; rw [if_neg (by simpa using hm), if_neg hk]
      rw [hR]
      have hd : decide (u ∈ nuL id kind L) = true := decide_eq_true hm
      rw [hd] at HCO
      have HCO := Lib.hid HCO
      have bk : (kind == 2) = false := by simpa using hk
      clear hR hm hd hk
      generalize nuL id kind L = NU at *
      go_enter Try.func11, Try.ntmps11
      go_upto_region 1 with fail
      generalize hWW : (w.alloc (.cells #[.int .i64 id, .int .i64 mem, .int .i64 kind, .slice A L.length cap] 24)).alloc (.cells #[.int .i64 u.ac, .int .i64 u.cl] 31) = W at *
      clear hWW
      have HQ : Hid (∀ V, Below W.heap.size W V → (V.cell? ⟨w.heap.size, 0, none⟩ = some (.int .i64 id) ∧ V.cell? ⟨w.heap.size, 1, none⟩ = some (.int .i64 mem) ∧ V.cell? ⟨w.heap.size, 2, none⟩ = some (.int .i64 kind) ∧ V.cell? ⟨w.heap.size, 3, none⟩ = some (.slice A L.length cap)) ∧ (V.cell? ⟨w.heap.size + 1, 0, none⟩ = some (.int .i64 u.ac) ∧ V.cell? ⟨w.heap.size + 1, 1, none⟩ = some (.int .i64 u.cl))) := Lib.hid fun V h => ⟨⟨(K1.below h).2 0, (K1.below h).2 1, (K1.below h).2 2, (K1.below h).2 3⟩, ⟨(K2.below h).2 0, (K2.below h).2 1⟩⟩
      have HW0 : Hid (∀ V, Below W.heap.size W V → Below w.heap.size w V) := Lib.hid fun V h => hB0.trans (h.mono hB0.size)
      clear K1 K2
      go_wp2_with fail
      refine wp_region_held_drew (S := (fun V => Below W.heap.size W V)) (by kernel_rfl) (by exact (Below.refl _ _).drew) (fun hHeld => ?_)
      refine wpAnyH_take (i := 0) (oi := { dst := some 6, op := _, type := _, pos := _, after := _, guard := _ }) (v := ?_) rfl (by kernel_rfl) (by kernel_rfl) (by kernel_rfl) (fun _ _ _ h => h) (Or.inl ⟨by rfl, ?_⟩) hHeld ?_
      rotate_left
      · (intro w hSw; obtain ⟨⟨p0, p1, p2, p3⟩, ⟨u0, u1⟩⟩ := HQ.out _ (hSw); go_simp <;> with_reducible rfl)
      try simp only [Act.put, List.setIfInBounds_toArray, List.set_cons_zero, List.set_cons_succ]
      refine wpAnyH_take (i := 2) (oi := { dst := some 8, op := _, type := _, pos := _, after := _, guard := _ }) (v := ?_) rfl (by kernel_rfl) (by kernel_rfl) (by kernel_rfl) (fun _ _ _ h => h) (Or.inl ⟨by rfl, ?_⟩) hHeld ?_
      rotate_left
      · (intro w hSw; obtain ⟨⟨p0, p1, p2, p3⟩, ⟨u0, u1⟩⟩ := HQ.out _ (hSw); go_simp <;> with_reducible rfl)
      try simp only [Act.put, List.setIfInBounds_toArray, List.set_cons_zero, List.set_cons_succ]
      refine wpAnyH_ready (rs := [1]) (by kernel_rfl) (by simp) ?_
      refine AllReadyH.cons (o := { dst := some 7, op := _, type := _, pos := _, after := _, guard := _ }) rfl (fun K hK => ?_) AllReadyH.nil
      go_simp
      refine (HNU.out _ (HW0.out _ hHeld)).mono ?_
      rintro e x1 ⟨⟨A1, c1, rfl, o1⟩, hk1⟩
      have hKeep := since_step hHeld hk1
      have s1 := Sl.of_own o1
      clear o1
      go_wp2_with fail
      refine hK.out _ _ (by (try dsimp only); exact hKeep) (fun hHeld => ?_)
      clear hK K hKeep
      try simp only [Act.put, List.setIfInBounds_toArray, List.set_cons_zero, List.set_cons_succ]
      refine wpAnyH_ready (rs := [3]) (by kernel_rfl) (by simp) ?_
      refine AllReadyH.cons (o := { dst := some 9, op := _, type := _, pos := _, after := _, guard := _ }) rfl (fun K hK => ?_) AllReadyH.nil
      go_simp
      refine (HCO.out _ _ _ s1).mono ?_
      rintro e x2 ⟨rfl, hk1⟩
      have hKeep := since_step hHeld hk1
      go_wp2_with fail
      refine hK.out _ _ (by (try dsimp only); exact hKeep) (fun hHeld => ?_)
      clear hK K hKeep
      try simp only [Act.put, List.setIfInBounds_toArray, List.set_cons_zero, List.set_cons_succ]
      refine wpAnyH_take (i := 4) (oi := { dst := some 10, op := _, type := _, pos := _, after := _, guard := _ }) (v := ?_) rfl (by kernel_rfl) (by kernel_rfl) (by kernel_rfl) (fun _ _ _ h => h) (Or.inl ⟨by rfl, ?_⟩) hHeld ?_
      rotate_left
      · (intro w hSw; clear hSw; go_simp <;> with_reducible rfl)
      try simp only [Act.put, List.setIfInBounds_toArray, List.set_cons_zero, List.set_cons_succ]
      refine wpAnyH_take (i := 5) (oi := { dst := some 5, op := _, type := _, pos := _, after := _, guard := _ }) (v := ?_) rfl (by kernel_rfl) (by kernel_rfl) (by kernel_rfl) (fun _ _ _ h => h) (Or.inl ⟨by rfl, ?_⟩) hHeld ?_
      rotate_left
      · (intro w hSw; clear hSw; go_simp <;> with_reducible rfl)
      try simp only [Act.put, List.setIfInBounds_toArray, List.set_cons_zero, List.set_cons_succ]
      refine wpAnyH_done (by kernel_rfl) ?_ _
      have hBn := hB0.trans (hHeld.mono hB0.size)
      obtain ⟨⟨p0, p1, p2, p3⟩, ⟨u0, u1⟩⟩ := HQ.out _ hHeld
      go_wp2_with fail
      go_ret
      exact ⟨⟨_, 1, rfl, own_lit (rc Un.cells [u]) 31 hBn.size (by simp [rc, Un.cells]) (by show 1 ≤ maxLen; unfold maxLen; omega)⟩, since_alloc hBn _⟩
  · have hR : partsL id kind L u = [] := if_pos hm
    rw [hR]
    have hd : decide (u ∈ nuL id kind L) = false := decide_eq_false hm
    rw [hd] at HCO
    have HCO := Lib.hid HCO
    clear hR hm hd
    generalize nuL id kind L = NU at *
    go_enter Try.func11, Try.ntmps11
    go_upto_region 1 with fail
    generalize hWW : (w.alloc (.cells #[.int .i64 id, .int .i64 mem, .int .i64 kind, .slice A L.length cap] 24)).alloc (.cells #[.int .i64 u.ac, .int .i64 u.cl] 31) = W at *
    clear hWW
    have HQ : Hid (∀ V, Below W.heap.size W V → (V.cell? ⟨w.heap.size, 0, none⟩ = some (.int .i64 id) ∧ V.cell? ⟨w.heap.size, 1, none⟩ = some (.int .i64 mem) ∧ V.cell? ⟨w.heap.size, 2, none⟩ = some (.int .i64 kind) ∧ V.cell? ⟨w.heap.size, 3, none⟩ = some (.slice A L.length cap)) ∧ (V.cell? ⟨w.heap.size + 1, 0, none⟩ = some (.int .i64 u.ac) ∧ V.cell? ⟨w.heap.size + 1, 1, none⟩ = some (.int .i64 u.cl))) := Lib.hid fun V h => ⟨⟨(K1.below h).2 0, (K1.below h).2 1, (K1.below h).2 2, (K1.below h).2 3⟩, ⟨(K2.below h).2 0, (K2.below h).2 1⟩⟩
    have HW0 : Hid (∀ V, Below W.heap.size W V → Below w.heap.size w V) := Lib.hid fun V h => hB0.trans (h.mono hB0.size)
    clear K1 K2
    go_wp2_with fail
    refine wp_region_held_drew (S := (fun V => Below W.heap.size W V)) (by kernel_rfl) (by exact (Below.refl _ _).drew) (fun hHeld => ?_)
    refine wpAnyH_take (i := 0) (oi := { dst := some 6, op := _, type := _, pos := _, after := _, guard := _ }) (v := ?_) rfl (by kernel_rfl) (by kernel_rfl) (by kernel_rfl) (fun _ _ _ h => h) (Or.inl ⟨by rfl, ?_⟩) hHeld ?_
    rotate_left
    · (intro w hSw; obtain ⟨⟨p0, p1, p2, p3⟩, ⟨u0, u1⟩⟩ := HQ.out _ (hSw); go_simp <;> with_reducible rfl)
    try simp only [Act.put, List.setIfInBounds_toArray, List.set_cons_zero, List.set_cons_succ]
    refine wpAnyH_take (i := 2) (oi := { dst := some 8, op := _, type := _, pos := _, after := _, guard := _ }) (v := ?_) rfl (by kernel_rfl) (by kernel_rfl) (by kernel_rfl) (fun _ _ _ h => h) (Or.inl ⟨by rfl, ?_⟩) hHeld ?_
    rotate_left
    · (intro w hSw; obtain ⟨⟨p0, p1, p2, p3⟩, ⟨u0, u1⟩⟩ := HQ.out _ (hSw); go_simp <;> with_reducible rfl)
    try simp only [Act.put, List.setIfInBounds_toArray, List.set_cons_zero, List.set_cons_succ]
    refine wpAnyH_ready (rs := [1]) (by kernel_rfl) (by simp) ?_
    refine AllReadyH.cons (o := { dst := some 7, op := _, type := _, pos := _, after := _, guard := _ }) rfl (fun K hK => ?_) AllReadyH.nil
    go_simp
    refine (HNU.out _ (HW0.out _ hHeld)).mono ?_
    rintro e x1 ⟨⟨A1, c1, rfl, o1⟩, hk1⟩
    have hKeep := since_step hHeld hk1
    have s1 := Sl.of_own o1
    clear o1
    go_wp2_with fail
    refine hK.out _ _ (by (try dsimp only); exact hKeep) (fun hHeld => ?_)
    clear hK K hKeep
    try simp only [Act.put, List.setIfInBounds_toArray, List.set_cons_zero, List.set_cons_succ]
    refine wpAnyH_ready (rs := [3]) (by kernel_rfl) (by simp) ?_
    refine AllReadyH.cons (o := { dst := some 9, op := _, type := _, pos := _, after := _, guard := _ }) rfl (fun K hK => ?_) AllReadyH.nil
    go_simp
    refine (HCO.out _ _ _ s1).mono ?_
    rintro e x2 ⟨rfl, hk1⟩
    have hKeep := since_step hHeld hk1
    go_wp2_with fail
    refine hK.out _ _ (by (try dsimp only); exact hKeep) (fun hHeld => ?_)
    clear hK K hKeep
    try simp only [Act.put, List.setIfInBounds_toArray, List.set_cons_zero, List.set_cons_succ]
    refine wpAnyH_take (i := 4) (oi := { dst := some 10, op := _, type := _, pos := _, after := _, guard := _ }) (v := ?_) rfl (by kernel_rfl) (by kernel_rfl) (by kernel_rfl) (fun _ _ _ h => h) (Or.inl ⟨by rfl, ?_⟩) hHeld ?_
    rotate_left
    · (intro w hSw; clear hSw; go_simp <;> with_reducible rfl)
    try simp only [Act.put, List.setIfInBounds_toArray, List.set_cons_zero, List.set_cons_succ]
    refine wpAnyH_take (i := 5) (oi := { dst := some 5, op := _, type := _, pos := _, after := _, guard := _ }) (v := ?_) rfl (by kernel_rfl) (by kernel_rfl) (by kernel_rfl) (fun _ _ _ h => h) (Or.inl ⟨by rfl, ?_⟩) hHeld ?_
    rotate_left
    · (intro w hSw; clear hSw; go_simp <;> with_reducible rfl)
    try simp only [Act.put, List.setIfInBounds_toArray, List.set_cons_zero, List.set_cons_succ]
    refine wpAnyH_done (by kernel_rfl) ?_ _
    have hBn := hB0.trans (hHeld.mono hB0.size)
    go_wp2_with fail
    go_ret
    exact ⟨⟨none, 0, rfl, own_nil _ _ _⟩, hBn⟩
set_option maxHeartbeats 8000000 in
set_option maxRecDepth 100000 in
theorem nunit_any (id mem kind : Int) (A : Option Addr) (cap : Nat) (L : List Nt) (u : Un) (w : World) (hl : L.length ≤ 900000) (hs : Sl w A (rc Nt.cells L)) :
    Calls Try.prog 10 #[.agg #[.int .i64 id, .int .i64 mem, .int .i64 kind, .slice A L.length cap], u.val] w fun e w' => e = .returned (.tuple #[(unitU id kind L u).1.val, .bool (unitU id kind L u).2]) ∧ Below w.heap.size w w' := by
  have hB0 := since_alloc (since_alloc (since_alloc (Below.refl _ w) (.cells #[.int .i64 id, .int .i64 mem, .int .i64 kind, .slice A L.length cap] 24)) (.cells #[.int .i64 u.ac, .int .i64 u.cl] 31)) (.cells #[.int .i64 0, .int .i64 0] 31)
  have K1 := ((Bk.new w #[.int .i64 id, .int .i64 mem, .int .i64 kind, .slice A L.length cap] 24).alloc (.cells #[.int .i64 u.ac, .int .i64 u.cl] 31)).alloc (.cells #[.int .i64 0, .int .i64 0] 31)
  have K2 := (Bk.new (w.alloc (.cells #[.int .i64 id, .int .i64 mem, .int .i64 kind, .slice A L.length cap] 24)) #[.int .i64 u.ac, .int .i64 u.cl] 31).alloc (.cells #[.int .i64 0, .int .i64 0] 31)
  rw [World.size_alloc] at K2
  have X := UB.new ((w.alloc (.cells #[.int .i64 id, .int .i64 mem, .int .i64 kind, .slice A L.length cap] 24)).alloc (.cells #[.int .i64 u.ac, .int .i64 u.cl] 31)) 31
  rw [World.size_alloc, World.size_alloc] at X
  have HCO := fun V (h : Below w.heap.size w V) => hasA_any id mem kind A cap L u V hl (hs.below h)
  have HWH := Lib.hid (fun V => whole_any id mem kind A cap L V)
  unfold Un.val at *
  clear hs
  cases hm : hasU id kind L u with
  | true =>
    by_cases hk : kind = 2
    · have hR : unitU id kind L u = (⟨id, 0⟩, true) := by unfold unitU; rw [if_neg (by simp [hm]), if_pos hk]
      rw [hR]
      rw [hm] at HCO
      have HCO := Lib.hid HCO
      have bk : (kind == 2) = true := by simpa using hk
      clear hR hm hk
      go_enter Try.func10, Try.ntmps10
      go_upto_region 1 with fail
      generalize hWW : ((w.alloc (.cells #[.int .i64 id, .int .i64 mem, .int .i64 kind, .slice A L.length cap] 24)).alloc (.cells #[.int .i64 u.ac, .int .i64 u.cl] 31)).alloc (.cells #[.int .i64 0, .int .i64 0] 31) = W at *
      clear hWW
      have HQ : Hid (∀ V, Below W.heap.size W V → (V.cell? ⟨w.heap.size, 0, none⟩ = some (.int .i64 id) ∧ V.cell? ⟨w.heap.size, 1, none⟩ = some (.int .i64 mem) ∧ V.cell? ⟨w.heap.size, 2, none⟩ = some (.int .i64 kind) ∧ V.cell? ⟨w.heap.size, 3, none⟩ = some (.slice A L.length cap)) ∧ (V.cell? ⟨w.heap.size + 1, 0, none⟩ = some (.int .i64 u.ac) ∧ V.cell? ⟨w.heap.size + 1, 1, none⟩ = some (.int .i64 u.cl))) := Lib.hid fun V h => ⟨⟨(K1.below h).2 0, (K1.below h).2 1, (K1.below h).2 2, (K1.below h).2 3⟩, ⟨(K2.below h).2 0, (K2.below h).2 1⟩⟩
      have hC := Below.refl W.heap.size W
      clear K1 K2
      obtain ⟨⟨p0, p1, p2, p3⟩, ⟨u0, u1⟩⟩ := HQ.out _ hC
      go_wp2_with fail
      refine (HCO.out _ hB0).mono ?_
      rintro e w1 ⟨rfl, hb⟩
      have hC := since_step hC hb
      have hBn := since_step hB0 hb
      have X1 := X.below hb
      clear p0 p1 p2 p3 u0 u1 hb
      obtain ⟨⟨p0, p1, p2, p3⟩, ⟨u0, u1⟩⟩ := HQ.out _ hC
      go_wp2_with fail
      refine (HWH.out _).mono ?_
      rintro e w2 ⟨rfl, hb⟩
      have hC := since_step hC hb
      have hBn := since_step hBn hb
      have X1 := X1.below hb
      clear p0 p1 p2 p3 u0 u1 hb
      obtain ⟨x0, x1, x2, x3, x4⟩ := X1.got
      have hcs := @cell_set
      go_wp2_with fail
      refine bodyPost_ret (v := .tuple #[.agg #[.int .i64 id, .int .i64 0], .bool true]) ?_ rfl ⟨?_, ?_⟩
      · simp [results, Try.results10, go_sem, x0, x1, x2, hcs]
      · rfl
      · repeat' (first | with_reducible exact hBn | with_reducible refine Below.setCell ?_ ?_ _ | with_reducible refine Below.alloc ?_ ?_ _)
        all_goals first | (simp; done) | (simp; omega)
    · have hR : unitU id kind L u = (u, true) := by unfold unitU; rw [if_neg (by simp [hm]), if_neg hk]
      rw [hR]
      rw [hm] at HCO
      have HCO := Lib.hid HCO
      have bk : (kind == 2) = false := by simpa using hk
      clear hR hm hk
      go_enter Try.func10, Try.ntmps10
      go_upto_region 1 with fail
      generalize hWW : ((w.alloc (.cells #[.int .i64 id, .int .i64 mem, .int .i64 kind, .slice A L.length cap] 24)).alloc (.cells #[.int .i64 u.ac, .int .i64 u.cl] 31)).alloc (.cells #[.int .i64 0, .int .i64 0] 31) = W at *
      clear hWW
      have HQ : Hid (∀ V, Below W.heap.size W V → (V.cell? ⟨w.heap.size, 0, none⟩ = some (.int .i64 id) ∧ V.cell? ⟨w.heap.size, 1, none⟩ = some (.int .i64 mem) ∧ V.cell? ⟨w.heap.size, 2, none⟩ = some (.int .i64 kind) ∧ V.cell? ⟨w.heap.size, 3, none⟩ = some (.slice A L.length cap)) ∧ (V.cell? ⟨w.heap.size + 1, 0, none⟩ = some (.int .i64 u.ac) ∧ V.cell? ⟨w.heap.size + 1, 1, none⟩ = some (.int .i64 u.cl))) := Lib.hid fun V h => ⟨⟨(K1.below h).2 0, (K1.below h).2 1, (K1.below h).2 2, (K1.below h).2 3⟩, ⟨(K2.below h).2 0, (K2.below h).2 1⟩⟩
      have hC := Below.refl W.heap.size W
      clear K1 K2
      obtain ⟨⟨p0, p1, p2, p3⟩, ⟨u0, u1⟩⟩ := HQ.out _ hC
      go_wp2_with fail
      refine (HCO.out _ hB0).mono ?_
      rintro e w1 ⟨rfl, hb⟩
      have hC := since_step hC hb
      have hBn := since_step hB0 hb
      have X1 := X.below hb
      clear p0 p1 p2 p3 u0 u1 hb
      obtain ⟨⟨p0, p1, p2, p3⟩, ⟨u0, u1⟩⟩ := HQ.out _ hC
      obtain ⟨x0, x1, x2, x3, x4⟩ := X1.got
      have hcs := @cell_set
      go_wp2_with fail
      refine bodyPost_ret (v := .tuple #[.agg #[.int .i64 u.ac, .int .i64 u.cl], .bool true]) ?_ rfl ⟨?_, ?_⟩
      · simp [results, Try.results10, go_sem, x0, x1, x2, hcs]
      · rfl
      · repeat' (first | with_reducible exact hBn | with_reducible refine Below.setCell ?_ ?_ _ | with_reducible refine Below.alloc ?_ ?_ _)
        all_goals first | (simp; done) | (simp; omega)
  | false =>
    have hR : unitU id kind L u = (⟨0, 0⟩, false) := if_pos hm
    rw [hR]
    rw [hm] at HCO
    have HCO := Lib.hid HCO
    clear hR hm
    go_enter Try.func10, Try.ntmps10
    go_upto_region 1 with fail
    generalize hWW : ((w.alloc (.cells #[.int .i64 id, .int .i64 mem, .int .i64 kind, .slice A L.length cap] 24)).alloc (.cells #[.int .i64 u.ac, .int .i64 u.cl] 31)).alloc (.cells #[.int .i64 0, .int .i64 0] 31) = W at *
    clear hWW
    have HQ : Hid (∀ V, Below W.heap.size W V → (V.cell? ⟨w.heap.size, 0, none⟩ = some (.int .i64 id) ∧ V.cell? ⟨w.heap.size, 1, none⟩ = some (.int .i64 mem) ∧ V.cell? ⟨w.heap.size, 2, none⟩ = some (.int .i64 kind) ∧ V.cell? ⟨w.heap.size, 3, none⟩ = some (.slice A L.length cap)) ∧ (V.cell? ⟨w.heap.size + 1, 0, none⟩ = some (.int .i64 u.ac) ∧ V.cell? ⟨w.heap.size + 1, 1, none⟩ = some (.int .i64 u.cl))) := Lib.hid fun V h => ⟨⟨(K1.below h).2 0, (K1.below h).2 1, (K1.below h).2 2, (K1.below h).2 3⟩, ⟨(K2.below h).2 0, (K2.below h).2 1⟩⟩
    have hC := Below.refl W.heap.size W
    clear K1 K2
    obtain ⟨⟨p0, p1, p2, p3⟩, ⟨u0, u1⟩⟩ := HQ.out _ hC
    go_wp2_with fail
    refine (HCO.out _ hB0).mono ?_
    rintro e w1 ⟨rfl, hb⟩
    have hC := since_step hC hb
    have hBn := since_step hB0 hb
    have X1 := X.below hb
    clear p0 p1 p2 p3 u0 u1 hb
    obtain ⟨⟨p0, p1, p2, p3⟩, ⟨u0, u1⟩⟩ := HQ.out _ hC
    obtain ⟨x0, x1, x2, x3, x4⟩ := X1.got
    have hcs := @cell_set
    go_wp2_with fail
    refine bodyPost_ret (v := .tuple #[.agg #[.int .i64 0, .int .i64 0], .bool false]) ?_ rfl ⟨?_, ?_⟩
    · simp [results, Try.results10, go_sem, x0, x1, x2, hcs]
    · rfl
    · repeat' (first | with_reducible exact hBn | with_reducible refine Below.setCell ?_ ?_ _ | with_reducible refine Below.alloc ?_ ?_ _)
      all_goals first | (simp; done) | (simp; omega)
end Go.Proofs.Ytlbccpiadmcpjaa
end
