import Derived.Test.YtiggcpfmmgmncaaVa28
section
namespace Go.Proofs.Ytiggcpfmmgmncaa
open Go.ChangeShapes Go.WideShapes Go.ChangeAt Go.RowKit
set_option linter.unusedVariables false
set_option linter.unusedSimpArgs false

theorem DrA.box {B b g kc h : Nat} {w w' : World} {K : Option Addr} {d : Dv} {cs : Array Value} {T : TypeId} {z : Nat × Nat} (hd : DrA B w b g K kc d) (hh : w.heap[h]? = some (.cells cs T z)) (h1 : T ≠ 71) (h2 : T ≠ 142) (h3 : T ≠ 3) (hc : ChgL [h] w w') : DrA B w' b g K kc d := by
  refine hd.chgL hc ?_ ?_ ?_
  · intro hm
    rw [List.mem_singleton] at hm
    have e := hd.blk
    rw [hm, hh] at e
    injection e with e
    injection e with _ e
    exact h1 e
  · intro hm
    rw [List.mem_singleton] at hm
    have e := hd.row
    rw [hm, hh] at e
    injection e with e
    injection e with _ e
    exact h2 e
  · intro y hy
    rw [List.mem_singleton] at hy
    rw [hy]
    exact own_type hd.kp hh (fun e => h3 e.symm)
theorem ScA.box {B s b c h : Nat} {w w' : World} {A : Option Addr} {R : List (RowS Nat)} {x : Sc} {cs : Array Value} {T : TypeId} {z : Nat × Nat} (hs : ScA B w s b A c R x) (hh : w.heap[h]? = some (.cells cs T z)) (h1 : T ≠ 66) (h2 : T ≠ 36) (h3 : T ≠ 5) (hc : ChgL [h] w w') : ScA B w' s b A c R x := by
  refine ⟨?_, ?_, ?_, hs.map, hs.ge, hs.small⟩
  · rw [hc.block s hs.lt (fun hm => by
      rw [List.mem_singleton] at hm
      have e := hs.blk
      rw [hm, hh] at e
      injection e with e
      injection e with _ e
      exact h1 e)]
    exact hs.blk
  · exact hc.own hs.own (fun y hy => by rw [List.mem_singleton] at hy; rw [hy]; exact own_type hs.own hh (fun e => h2 e.symm))
  · exact fun r hr => hc.own (hs.rows r hr) (fun y hy => by rw [List.mem_singleton] at hy; rw [hy]; exact own_type (hs.rows r hr) hh (fun e => h3 e.symm))
theorem own_box {B n : Nat} {e : TypeId} {v : Value} {xs : List Value} {h : Nat} {w w' : World} {cs : Array Value} {T : TypeId} {z : Nat × Nat} {size : Nat} (ho : w.ownsRow B e size v n xs) (hh : w.heap[h]? = some (.cells cs T z)) (h1 : e ≠ T) (hc : ChgL [h] w w') : w'.ownsRow B e size v n xs :=
  hc.own ho (fun y hy => by rw [List.mem_singleton] at hy; rw [hy]; exact own_type ho hh h1)
theorem box_cells {w : World} {h : Nat} {cs : Array Value} {T : TypeId} (hh : w.heap[h]? = some (.cells cs T (0, 0))) (i : Nat) : w.cell? ⟨h, i, none⟩ = cs[i]? ∧ w.frozen? ⟨h, i, none⟩ = false ∧ h < w.heap.size :=
  ⟨by simp [World.cell?, hh], by simp [World.frozen?, hh], (Array.getElem?_eq_some_iff.1 hh).1⟩
structure Vv where
  each : Nat
  life : Int
  era : Int
  state : List Nat
  dead : Bool
  sc : Sc
def shC (p0 : Value) (b each : Nat) (life era : Int) (st : Value) (dead : Bool) : Array Value := #[p0, .pointer (some ⟨b, 0, none⟩), .int .i64 each, .int .i64 life, .int .i64 era, st, .bool dead]
structure VaA (B : Nat) (w : World) (v h s b : Nat) (A : Option Addr) (c : Nat) (R : List (RowS Nat)) (SA : Option Addr) (k : Nat) (x : Vv) : Prop where
  vb : w.heap[v]? = some (.cells #[.pointer (some ⟨h, 0, none⟩)] 99 (0, 0))
  hb : w.heap[h]? = some (.cells (shC (.pointer (some ⟨s, 0, none⟩)) b x.each x.life x.era (.slice SA x.state.length k) x.dead) 123 (0, 0))
  sc : ScA B w s b A c R x.sc
  st : w.ownsRow B 5 1 (.slice SA x.state.length k) x.state.length (by8 x.state)
  ge : B ≤ v ∧ B ≤ h
  small : x.each ≤ 1024 ∧ x.state.length ≤ 100000 ∧ 0 ≤ x.life ∧ x.life ≤ 16777215 ∧ 0 ≤ x.era ∧ x.era ≤ 16777215
theorem VaA.below {B v h s b c k : Nat} {w w' : World} {A SA : Option Addr} {R : List (RowS Nat)} {x : Vv} (hv : VaA B w v h s b A c R SA k x) (hb : Below w.heap.size w w') : VaA B w' v h s b A c R SA k x :=
  ⟨by rw [hb.block v (Array.getElem?_eq_some_iff.1 hv.vb).1]; exact hv.vb, by rw [hb.block h (Array.getElem?_eq_some_iff.1 hv.hb).1]; exact hv.hb, hv.sc.below hb, own_below hv.st hb, hv.ge, hv.small⟩
theorem VaA.chg2 {B B2 b g kc v h s b2 c k : Nat} {K A SA : Option Addr} {d : Dv} {R : List (RowS Nat)} {x : Vv} {w w' : World} (hd : DrA B w b g K kc d) (hv : VaA B2 w v h s b2 A c R SA k x) (hc : Chg2 b g w w') : VaA B2 w' v h s b2 A c R SA k x := by
  have far : ∀ {n : Nat} {cs : Array Value} {T : TypeId} {z : Nat × Nat}, w.heap[n]? = some (.cells cs T z) → T ≠ 71 → T ≠ 142 → w'.heap[n]? = w.heap[n]? := fun {n cs T z} hn h1 h2 =>
    hc.block n (Array.getElem?_eq_some_iff.1 hn).1 (fun e => by
      have e1 := hd.blk
      rw [← e, hn] at e1
      injection e1 with e1
      injection e1 with _ e1
      exact h1 e1) (fun e => by
      have e1 := hd.row
      rw [← e, hn] at e1
      injection e1 with e1
      injection e1 with _ e1
      exact h2 e1)
  obtain ⟨x1, x2⟩ := hd.off hv.st (by decide) (by decide)
  exact ⟨by rw [far hv.vb (by decide) (by decide)]; exact hv.vb, by rw [far hv.hb (by decide) (by decide)]; exact hv.hb, ScA.chg2 hd hv.sc hc, hc.own hv.st x1 x2, hv.ge, hv.small⟩
set_option maxHeartbeats 4000000 in
set_option maxRecDepth 100000 in
theorem vturn_any {B b g kc h : Nat} {K : Option Addr} {d : Dv} {p0 : Value} {each : Nat} {l0 e0 : Int} {st : Value} {dead : Bool} (life era : Int) (w : World) (hd : DrA B w b g K kc d) (hh : w.heap[h]? = some (.cells (shC p0 b each l0 e0 st dead) 123 (0, 0))) (hB : B ≤ w.heap.size)
    (h2 : 2 * each ≤ d.S.length) (hl1 : 1 ≤ life) (hl2 : life ≤ 16777215) (he1 : 0 ≤ era) (he2 : era ≤ 16777215) (hnew : newestN d.S (2 * each) (d.S.length - 2 * each) < life) :
    Calls Try.prog 69 #[.pointer (some ⟨h, 0, none⟩), .int .i64 life, .int .i64 era] w fun e w' => ∃ s A c R, e = .returned (.int .i64 0) ∧ w'.heap[h]? = some (.cells (shC (.pointer (some ⟨s, 0, none⟩)) b each life era st dead) 123 (0, 0)) ∧
      ScA B w' s b A c R ⟨2 * each, d.S.length, life, era, (scan d.S d.S.length era (2 * each) 0 0).1, (scan d.S d.S.length era (2 * each) 0 0).2 - 2 * each, false⟩ ∧ ChgL [h] w w' ∧ w.heap.size ≤ s ∧ (∀ k, (Sc.row ⟨2 * each, d.S.length, life, era, (scan d.S d.S.length era (2 * each) 0 0).1, (scan d.S d.S.length era (2 * each) 0 0).2 - 2 * each, false⟩ A c).ownBlock = some k → w.heap.size ≤ k) := by
  have HSZ := Lib.hid (fun V (hV : Below w.heap.size w V) => dsize_eq V (hd.below hV))
  have HOP := Lib.hid (fun V (hV : Below w.heap.size w V) => sopen_new (2 * each) d.S.length life era V (hd.below hV) (Nat.le_trans hB hV.size) h2 (Nat.le_refl _) hl1 hl2 he1 he2 hnew)
  have hlen := hd.len
  have HW2 : Hid (IntKind.i64.wrap (2 * (each : Int)) = ((2 * each : Nat) : Int)) := Lib.hid (by rw [IntKind.wrap_i64]; omega)
  have HBOX := Lib.hid (fun V (hV : Below w.heap.size w V) => (show V.heap[h]? = some (.cells (shC p0 b each l0 e0 st dead) 123 (0, 0)) from by rw [hV.block h (Array.getElem?_eq_some_iff.1 hh).1]; exact hh))
  have HBX := Lib.hid (fun V (hV : Below w.heap.size w V) => (show V.cell? ⟨h, 1, none⟩ = some (.pointer (some ⟨b, 0, none⟩)) ∧ V.cell? ⟨h, 2, none⟩ = some (.int .i64 each) ∧ h < V.heap.size from by
    have hx := HBOX.out V hV
    exact ⟨(box_cells hx 1).1, (box_cells hx 2).1, (box_cells hx 1).2.2⟩))
  obtain ⟨n, hn⟩ : ∃ n, d.S.length = n := ⟨_, rfl⟩
  rw [hn] at HSZ HOP ⊢
  obtain ⟨X, hX⟩ : ∃ X, scan d.S n era (2 * each) 0 0 = X := ⟨_, rfl⟩
  rw [hX] at HOP ⊢
  clear hn hX hd hh hB h2 hl1 hl2 he1 he2 hnew hlen
  go_enter Try.func69, Try.ntmps69
  go_wp2_with fail
  refine wp_region_held_drew (S := (fun V => Below w.heap.size w V)) (by kernel_rfl) (by exact (Below.refl _ _).drew) (fun hHeld => ?_)
  refine wpAnyH_take (i := 0) (oi := { dst := some 10, op := _, type := _, pos := _, after := _, guard := _ }) (v := ?_) rfl (by kernel_rfl) (by kernel_rfl) (by kernel_rfl) (fun _ _ _ h => h) (Or.inl ⟨by rfl, ?_⟩) hHeld ?_
  rotate_left
  · (intro w hSw; clear hSw; go_simp <;> with_reducible rfl)
  try simp only [Act.put, List.setIfInBounds_toArray, List.set_cons_zero, List.set_cons_succ]
  refine wpAnyH_take (i := 1) (oi := { dst := some 11, op := _, type := _, pos := _, after := _, guard := _ }) (v := ?_) rfl (by kernel_rfl) (by kernel_rfl) (by kernel_rfl) (fun _ _ _ h => h) (Or.inl ⟨by rfl, ?_⟩) hHeld ?_
  rotate_left
  · (intro w hSw; clear hSw; go_simp <;> with_reducible rfl)
  try simp only [Act.put, List.setIfInBounds_toArray, List.set_cons_zero, List.set_cons_succ]
  refine wpAnyH_take (i := 2) (oi := { dst := some 12, op := _, type := _, pos := _, after := _, guard := _ }) (v := ?_) rfl (by kernel_rfl) (by kernel_rfl) (by kernel_rfl) (fun _ _ _ h => h) (Or.inl ⟨by rfl, ?_⟩) hHeld ?_
  rotate_left
  · (intro w hSw; clear hSw; go_simp <;> with_reducible rfl)
  try simp only [Act.put, List.setIfInBounds_toArray, List.set_cons_zero, List.set_cons_succ]
  refine wpAnyH_take (i := 3) (oi := { dst := some 13, op := _, type := _, pos := _, after := _, guard := _ }) (v := ?_) rfl (by kernel_rfl) (by kernel_rfl) (by kernel_rfl) (fun _ _ _ h => h) (Or.inl ⟨by rfl, ?_⟩) hHeld ?_
  rotate_left
  · (intro w hSw; obtain ⟨q1, q2, qs⟩ := HBX.out _ (hSw); go_simp <;> with_reducible rfl)
  try simp only [Act.put, List.setIfInBounds_toArray, List.set_cons_zero, List.set_cons_succ]
  refine wpAnyH_take (i := 4) (oi := { dst := some 14, op := _, type := _, pos := _, after := _, guard := _ }) (v := ?_) rfl (by kernel_rfl) (by kernel_rfl) (by kernel_rfl) (fun _ _ _ h => h) (Or.inl ⟨by rfl, ?_⟩) hHeld ?_
  rotate_left
  · (intro w hSw; clear hSw; go_simp <;> with_reducible rfl)
  try simp only [Act.put, List.setIfInBounds_toArray, List.set_cons_zero, List.set_cons_succ]
  refine wpAnyH_take (i := 5) (oi := { dst := some 15, op := _, type := _, pos := _, after := _, guard := _ }) (v := ?_) rfl (by kernel_rfl) (by kernel_rfl) (by kernel_rfl) (fun _ _ _ h => h) (Or.inl ⟨by rfl, ?_⟩) hHeld ?_
  rotate_left
  · (intro w hSw; clear hSw; go_simp <;> with_reducible rfl)
  try simp only [Act.put, List.setIfInBounds_toArray, List.set_cons_zero, List.set_cons_succ]
  refine wpAnyH_take (i := 6) (oi := { dst := some 16, op := _, type := _, pos := _, after := _, guard := _ }) (v := ?_) rfl (by kernel_rfl) (by kernel_rfl) (by kernel_rfl) (fun _ _ _ h => h) (Or.inl ⟨by rfl, ?_⟩) hHeld ?_
  rotate_left
  · (intro w hSw; clear hSw; go_simp <;> with_reducible rfl)
  try simp only [Act.put, List.setIfInBounds_toArray, List.set_cons_zero, List.set_cons_succ]
  refine wpAnyH_take (i := 7) (oi := { dst := some 17, op := _, type := _, pos := _, after := _, guard := _ }) (v := ?_) rfl (by kernel_rfl) (by kernel_rfl) (by kernel_rfl) (fun _ _ _ h => h) (Or.inl ⟨by rfl, ?_⟩) hHeld ?_
  rotate_left
  · (intro w hSw; obtain ⟨q1, q2, qs⟩ := HBX.out _ (hSw); go_simp <;> with_reducible rfl)
  try simp only [Act.put, List.setIfInBounds_toArray, List.set_cons_zero, List.set_cons_succ]
  refine wpAnyH_take (i := 8) (oi := { dst := some 18, op := _, type := _, pos := _, after := _, guard := _ }) (v := ?_) rfl (by kernel_rfl) (by kernel_rfl) (by kernel_rfl) (fun _ _ _ h => h) (Or.inl ⟨by rfl, ?_⟩) hHeld ?_
  rotate_left
  · (intro w hSw; clear hSw; go_simp <;> with_reducible rfl)
  try simp only [Act.put, List.setIfInBounds_toArray, List.set_cons_zero, List.set_cons_succ]
  refine wpAnyH_take (i := 9) (oi := { dst := some 19, op := _, type := _, pos := _, after := _, guard := _ }) (v := ?_) rfl (by kernel_rfl) (by kernel_rfl) (by kernel_rfl) (fun _ _ _ h => h) (Or.inl ⟨by rfl, ?_⟩) hHeld ?_
  rotate_left
  · (intro w hSw; clear hSw; go_simp <;> with_reducible rfl)
  try simp only [Act.put, List.setIfInBounds_toArray, List.set_cons_zero, List.set_cons_succ]
  refine wpAnyH_take (i := 10) (oi := { dst := some 20, op := _, type := _, pos := _, after := _, guard := _ }) (v := ?_) rfl (by kernel_rfl) (by kernel_rfl) (by kernel_rfl) (fun _ _ _ h => h) (Or.inl ⟨by rfl, ?_⟩) hHeld ?_
  rotate_left
  · (intro w hSw; clear hSw; go_simp <;> with_reducible rfl)
  try simp only [Act.put, List.setIfInBounds_toArray, List.set_cons_zero, List.set_cons_succ]
  refine wpAnyH_take (i := 11) (oi := { dst := some 21, op := _, type := _, pos := _, after := _, guard := _ }) (v := ?_) rfl (by kernel_rfl) (by kernel_rfl) (by kernel_rfl) (fun _ _ _ h => h) (Or.inl ⟨by rfl, ?_⟩) hHeld ?_
  rotate_left
  · (intro w hSw; clear hSw; go_simp <;> with_reducible rfl)
  try simp only [Act.put, List.setIfInBounds_toArray, List.set_cons_zero, List.set_cons_succ]
  refine wpAnyH_take (i := 12) (oi := { dst := some 22, op := _, type := _, pos := _, after := _, guard := _ }) (v := ?_) rfl (by kernel_rfl) (by kernel_rfl) (by kernel_rfl) (fun _ _ _ h => h) (Or.inl ⟨by rfl, ?_⟩) hHeld ?_
  rotate_left
  · (intro w hSw; obtain ⟨q1, q2, qs⟩ := HBX.out _ (hSw); go_simp <;> with_reducible rfl)
  try simp only [Act.put, List.setIfInBounds_toArray, List.set_cons_zero, List.set_cons_succ]
  refine wpAnyH_take (i := 14) (oi := { dst := some 24, op := _, type := _, pos := _, after := _, guard := _ }) (v := ?_) rfl (by kernel_rfl) (by kernel_rfl) (by kernel_rfl) (fun _ _ _ h => h) (Or.inl ⟨by rfl, ?_⟩) hHeld ?_
  rotate_left
  · (intro w hSw; clear hSw; go_simp <;> with_reducible rfl)
  try simp only [Act.put, List.setIfInBounds_toArray, List.set_cons_zero, List.set_cons_succ]
  refine wpAnyH_take (i := 15) (oi := { dst := some 25, op := _, type := _, pos := _, after := _, guard := _ }) (v := ?_) rfl (by kernel_rfl) (by kernel_rfl) (by kernel_rfl) (fun _ _ _ h => h) (Or.inl ⟨by rfl, ?_⟩) hHeld ?_
  rotate_left
  · (intro w hSw; clear hSw; go_simp <;> with_reducible rfl)
  try simp only [Act.put, List.setIfInBounds_toArray, List.set_cons_zero, List.set_cons_succ]
  refine wpAnyH_ready (rs := [13]) (by kernel_rfl) (by simp) ?_
  refine AllReadyH.cons (o := { dst := some 23, op := _, type := _, pos := _, after := _, guard := _ }) rfl (fun K hK => ?_) AllReadyH.nil
  go_simp
  refine (HSZ.out _ hHeld).mono ?_
  rintro e x1 ⟨rfl, rfl⟩
  have hKeep := hHeld
  go_wp2_with fail
  refine hK.out _ _ (by (try dsimp only); exact hKeep) (fun hHeld => ?_)
  clear hK K hKeep
  try simp only [Act.put, List.setIfInBounds_toArray, List.set_cons_zero, List.set_cons_succ]
  refine wpAnyH_ready (rs := [16]) (by kernel_rfl) (by simp) ?_
  refine AllReadyH.cons (o := { dst := some 26, op := _, type := _, pos := _, after := _, guard := _ }) rfl (fun K hK => ?_) AllReadyH.nil
  go_simp
  rw [HW2.out]
  refine (HOP.out _ hHeld).mono ?_
  rintro e x2 ⟨s, A, c, R, rfl, hs2, hb2, hsz2, hrow2⟩
  have hKeep := since_step hHeld hb2
  have HS2 := Lib.hid hs2
  have HSZ2 : Hid (w.heap.size ≤ s) := Lib.hid (Nat.le_trans hHeld.size hsz2)
  have HRW2 := Lib.hid (fun k hk => Nat.le_trans hHeld.size (hrow2 k hk))
  clear hs2 hb2 hsz2 hrow2
  go_wp2_with fail
  refine hK.out _ _ (by (try dsimp only); exact hKeep) (fun hHeld => ?_)
  clear hK K hKeep
  try simp only [Act.put, List.setIfInBounds_toArray, List.set_cons_zero, List.set_cons_succ]
  refine wpAnyH_take (i := 17) (oi := { dst := some 9, op := _, type := _, pos := _, after := _, guard := _ }) (v := ?_) rfl (by kernel_rfl) (by kernel_rfl) (by kernel_rfl) (fun _ _ _ h => h) (Or.inl ⟨by rfl, ?_⟩) hHeld ?_
  rotate_left
  · (intro w hSw; clear hSw; go_simp <;> with_reducible rfl)
  try simp only [Act.put, List.setIfInBounds_toArray, List.set_cons_zero, List.set_cons_succ]
  refine wpAnyH_take (i := 18) (oi := { dst := some 27, op := _, type := _, pos := _, after := _, guard := _ }) (v := ?_) rfl (by kernel_rfl) (by kernel_rfl) (by kernel_rfl) (fun _ _ _ h => h) (Or.inl ⟨by rfl, ?_⟩) hHeld ?_
  rotate_left
  · (intro w hSw; clear hSw; go_simp <;> with_reducible rfl)
  try simp only [Act.put, List.setIfInBounds_toArray, List.set_cons_zero, List.set_cons_succ]
  refine wpAnyH_take (i := 19) (oi := { dst := some 28, op := _, type := _, pos := _, after := _, guard := _ }) (v := ?_) rfl (by kernel_rfl) (by kernel_rfl) (by kernel_rfl) (fun _ _ _ h => h) (Or.inl ⟨by rfl, ?_⟩) hHeld ?_
  rotate_left
  · (intro w hSw; clear hSw; go_simp <;> with_reducible rfl)
  try simp only [Act.put, List.setIfInBounds_toArray, List.set_cons_zero, List.set_cons_succ]
  refine wpAnyH_take (i := 20) (oi := { dst := some 7, op := _, type := _, pos := _, after := _, guard := _ }) (v := ?_) rfl (by kernel_rfl) (by kernel_rfl) (by kernel_rfl) (fun _ _ _ h => h) (Or.inl ⟨by rfl, ?_⟩) hHeld ?_
  rotate_left
  · (intro w hSw; clear hSw; go_simp <;> with_reducible rfl)
  try simp only [Act.put, List.setIfInBounds_toArray, List.set_cons_zero, List.set_cons_succ]
  refine wpAnyH_take (i := 21) (oi := { dst := some 8, op := _, type := _, pos := _, after := _, guard := _ }) (v := ?_) rfl (by kernel_rfl) (by kernel_rfl) (by kernel_rfl) (fun _ _ _ h => h) (Or.inl ⟨by rfl, ?_⟩) hHeld ?_
  rotate_left
  · (intro w hSw; clear hSw; go_simp <;> with_reducible rfl)
  try simp only [Act.put, List.setIfInBounds_toArray, List.set_cons_zero, List.set_cons_succ]
  refine wpAnyH_done (by kernel_rfl) ?_ _
  have HBY := Lib.hid hHeld
  have HBB := Lib.hid ((HBOX.out _ HBY.out))
  have k0 := (box_cells HBB.out 0).1
  have k1 := (box_cells HBB.out 3).1
  have k2 := (box_cells HBB.out 4).1
  have z0 := (box_cells HBB.out 0).2.1
  have z1 := (box_cells HBB.out 3).2.1
  have z2 := (box_cells HBB.out 4).2.1
  have ks := (box_cells HBB.out 0).2.2
  simp only [shC, List.getElem?_toArray, List.getElem?_cons_zero, List.getElem?_cons_succ] at k0 k1 k2
  clear hHeld
  go_wp2_with fail
  go_ret
  refine ⟨s, A, c, R, rfl, ?_, ScA.box HS2.out HBB.out (by decide) (by decide) (by decide) ?_, ?_, HSZ2.out, HRW2.out⟩
  · have e0 := set_blk (i := 0) (.pointer (some ⟨s, 0, none⟩)) HBB.out
    have e1 := set_blk (i := 3) (.int .i64 life) e0
    have e2 := set_blk (i := 4) (.int .i64 era) e1
    simpa [shC] using e2
  · exact ((ChgL.set (l := [h]) 0 _ (by simp)).trans (ChgL.set (l := [h]) 3 _ (by simp)) (fun y hy => .inl hy)).trans (ChgL.set (l := [h]) 4 _ (by simp)) (fun y hy => .inl hy)
  · exact (((ChgL.of_below (l := [h]) HBY.out).trans (ChgL.set (l := [h]) 0 _ (by simp)) (fun y hy => .inl hy)).trans (ChgL.set (l := [h]) 3 _ (by simp)) (fun y hy => .inl hy)).trans (ChgL.set (l := [h]) 4 _ (by simp)) (fun y hy => .inl hy)
end Go.Proofs.Ytiggcpfmmgmncaa
end
