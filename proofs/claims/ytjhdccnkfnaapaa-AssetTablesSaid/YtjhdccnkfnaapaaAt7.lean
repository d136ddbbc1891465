/-
  Layer 12: AssetTables: the walk (laid by gen_at7.py).
-/
import Derived.Test.YtjhdccnkfnaapaaAt6
import Derived.Test.YtjhdccnkfnaapaaAsset2
namespace Go.Proofs.Ytjhdccnkfnaapaa
open Go.ChangeShapes Go.WideShapes Go.ChangeAt Go.RowKit
set_option linter.unusedVariables false
set_option linter.unusedSimpArgs false

theorem ownM_below {w w' : World} {B e size n : Nat} {v : Value} {xs : List Value} (h : w.ownsRow B e size v n xs) (hb : Below w.heap.size w w') : w'.ownsRow B e size v n xs := own_below h hb
theorem rd_arow {w : World} {r : List Value} (h : Rd w (.cat (.int .i64) (.cat (.int .i64) (.cat (.int .i64) .nil))) r) : ∃ g : Ax, r = g.cells := by
  obtain ⟨p, q, rfl, ⟨a, rfl, _⟩, ⟨p2, q2, rfl, ⟨b, rfl, _⟩, ⟨p3, q3, rfl, ⟨c, rfl, _⟩, rfl⟩⟩⟩ := h
  exact ⟨⟨a, b, c⟩, rfl⟩
theorem rd_ax {w : World} {a : Array Value} (h : Rd w (.cat (.int .i64) (.cat (.int .i64) (.cat (.int .i64) .nil))) a.toList) : ∃ v : Ax, .agg a = v.val := by
  obtain ⟨v, hv⟩ := rd_arow h
  refine ⟨v, ?_⟩
  cases a
  simp at hv
  subst hv
  rfl
theorem putMR_len (l : List Ax) (v : Ax) : (putMR l v).2.length ≤ l.length + 1 := by
  unfold putMR
  split
  · simp
  · split
    · simp
    · exact length_putR _ _
theorem priceR_len (l : List Ax) (id p : Int) : (priceR l id p).2.length ≤ l.length + 1 := by
  unfold priceR
  split
  · simp
  · split
    · simp
    · simp

set_option maxHeartbeats 16000000 in
set_option maxRecDepth 100000 in
theorem walk_AssetTables (a0 : Option Addr) (n0 c0 : Nat) (a1 : Array Value) (a2 : Int) (a3 : Int) (w : World) (w0 : Rd w (.sl (.cat (.int .i64) (.cat (.int .i64) (.cat (.int .i64) .nil)))) [.slice a0 n0 c0]) (w1 : Rd w (.cat (.int .i64) (.cat (.int .i64) (.cat (.int .i64) .nil))) a1.toList) (w2 : (Lit.int .i64 a2).wf = true) (w3 : (Lit.int .i64 a3).wf = true) :
    Calls Try.prog 3 #[.slice a0 n0 c0, .agg a1, .int .i64 a2, .int .i64 a3] w fun e w' => e = .returned (.bool true) ∧ Below w.heap.size w w' := by
  obtain ⟨l, rfl, _, _, hsl⟩ := rd_rows (f := Ax.cells) (fun r => rd_arow) w0
  obtain ⟨v, hv⟩ := rd_ax w1
  rw [hv]
  clear hv w0 w1 w2 w3
  have hB3 := since_alloc (Below.refl _ w) (.cells v.cells.toArray 24)
  have hV := Ax.Bx.new w v
  have hs := hsl.alloc (.cells v.cells.toArray 24)
  clear hsl
  have HIS := Lib.hid (fun W => mis_any v W)
  have HCK := Lib.hid (fun W => check_any v W)
  by_cases hok : okM v
  · have h1 : (if okM v then (0 : Int) else 2) = 0 := if_pos hok
    have h2 : decide (okM v) = true := decide_eq_true hok
    rw [h1] at HCK
    rw [h2] at HIS
    clear h1 h2 hok
    unfold Ax.val at *
    go_enter Try.func3, Try.ntmps3
    go_upto_region 1 with fail
    unfold Ax.cells at hB3 hV hs
    generalize hWW : w.alloc (.cells #[.int .i64 v.id, .int .i64 v.price, .int .i64 v.hc] 24) = W at *
    clear hWW
    have hszW : w.heap.size ≤ W.heap.size := hB3.size
    have HV : Hid (∀ V, Below W.heap.size W V → Ax.Bx V w.heap.size v) := Lib.hid fun V hV' => hV.below hV'
    have HS : Hid (∀ V, Below W.heap.size W V → Sl V a0 (rc Ax.cells l)) := Lib.hid fun V hV' => hs.below hV'
    clear hs hV
    go_wp2_with fail
    refine wp_region_held_drew (S := (fun V => Below W.heap.size W V)) (by kernel_rfl) (by exact (Below.refl _ _).drew) (fun hHeld => ?_)
    refine wpAnyH_take (i := 0) (oi := { dst := some 21, op := _, type := _, pos := _, after := _, guard := _ }) (v := ?_) rfl (by kernel_rfl) (by kernel_rfl) (by kernel_rfl) (fun _ _ _ h => h) (Or.inl ⟨by rfl, ?_⟩) hHeld ?_
    rotate_left
    · (intro w hSw; obtain ⟨g0, g1, g2⟩ := (HV.out _ hSw).got; go_simp <;> with_reducible rfl)
    try simp only [Act.put, List.setIfInBounds_toArray, List.set_cons_zero, List.set_cons_succ]
    refine wpAnyH_take (i := 3) (oi := { dst := some 24, op := _, type := _, pos := _, after := _, guard := _ }) (v := ?_) rfl (by kernel_rfl) (by kernel_rfl) (by kernel_rfl) (fun _ _ _ h => h) (Or.inl ⟨by rfl, ?_⟩) hHeld ?_
    rotate_left
    · (intro w hSw; obtain ⟨g0, g1, g2⟩ := (HV.out _ hSw).got; go_simp <;> with_reducible rfl)
    try simp only [Act.put, List.setIfInBounds_toArray, List.set_cons_zero, List.set_cons_succ]
    refine wpAnyH_ready (rs := [1]) (by kernel_rfl) (by simp) ?_
    refine AllReadyH.cons (o := { dst := some 22, op := _, type := _, pos := _, after := _, guard := _ }) rfl (fun K hK => ?_) AllReadyH.nil
    go_simp
    refine (HCK.out _).mono ?_
    rintro e r1 ⟨rfl, hk1⟩
    have hKeep := since_step hHeld hk1
    go_wp2_with fail
    refine hK.out _ _ (by (try dsimp only); exact hKeep) (fun hHeld => ?_)
    clear hK K hKeep
    try simp only [Act.put, List.setIfInBounds_toArray, List.set_cons_zero, List.set_cons_succ]
    refine wpAnyH_take (i := 2) (oi := { dst := some 23, op := _, type := _, pos := _, after := _, guard := _ }) (v := ?_) rfl (by kernel_rfl) (by kernel_rfl) (by kernel_rfl) (fun _ _ _ h => h) (Or.inl ⟨by rfl, ?_⟩) hHeld ?_
    rotate_left
    · (intro w hSw; obtain ⟨g0, g1, g2⟩ := (HV.out _ hSw).got; go_simp <;> with_reducible rfl)
    try simp only [Act.put, List.setIfInBounds_toArray, List.set_cons_zero, List.set_cons_succ]
    refine wpAnyH_ready (rs := [4]) (by kernel_rfl) (by simp) ?_
    refine AllReadyH.cons (o := { dst := some 25, op := _, type := _, pos := _, after := _, guard := _ }) rfl (fun K hK => ?_) AllReadyH.nil
    go_simp
    refine (HIS.out _).mono ?_
    rintro e r2 ⟨rfl, hk2⟩
    have hKeep := since_step hHeld hk2
    go_wp2_with fail
    refine hK.out _ _ (by (try dsimp only); exact hKeep) (fun hHeld => ?_)
    clear hK K hKeep
    try simp only [Act.put, List.setIfInBounds_toArray, List.set_cons_zero, List.set_cons_succ]
    refine wpAnyH_take (i := 5) (oi := { dst := some 26, op := _, type := _, pos := _, after := _, guard := _ }) (v := ?_) rfl (by kernel_rfl) (by kernel_rfl) (by kernel_rfl) (fun _ _ _ h => h) (Or.inl ⟨by rfl, ?_⟩) hHeld ?_
    rotate_left
    · (intro w hSw; obtain ⟨g0, g1, g2⟩ := (HV.out _ hSw).got; go_simp <;> with_reducible rfl)
    try simp only [Act.put, List.setIfInBounds_toArray, List.set_cons_zero, List.set_cons_succ]
    refine wpAnyH_done (by kernel_rfl) ?_ _
    have hs := HS.out _ hHeld
    have hV := HV.out _ hHeld
    have hB3 := hB3.trans (hHeld.mono hszW)
    have hcs := @cell_set
    obtain ⟨g0, g1, g2⟩ := hV.got
    have lv := hV.lt
    go_wp2_with fail
    refine (rtable_any a0 c0 l _ hs).mono ?_
    rintro e z1 ⟨⟨R, AT, cT, rfl, ownT, hsd, hR10⟩, hb⟩
    have hB3 := since_step hB3 hb
    have hV := hV.below hb
    clear hb
    clear g0 g1 g2 lv
    have hT := Sl.of_own ownT
    have hRl : R.length ≤ 900000 := by omega
    have hpl : (putMR R v).2.length ≤ 1000000 := Nat.le_trans (putMR_len R v) (by omega)
    have hsl : (priceR R a2 a3).2.length ≤ 1000000 := Nat.le_trans (priceR_len R a2 a3) (by omega)
    have HSD := Lib.hid hsd
    clear hsd
    obtain ⟨pv, hpv⟩ : ∃ y, findM R a2 = y := ⟨_, rfl⟩
    obtain ⟨pq, hpq⟩ : ∃ y, hasM R a2 = y := ⟨_, rfl⟩
    have HPV := Lib.hid hpv
    have HPQ := Lib.hid hpq
    clear hpv hpq
    obtain ⟨g0, g1, g2⟩ := hV.got
    have lv := hV.lt
    go_wp2_with fail
    refine (mput_any AT cT R v _ hRl hT).mono ?_
    rintro e z2 ⟨⟨AX1, cX1, rfl, hown⟩, hb⟩
    have hB3 := since_step hB3 hb
    have hV := hV.below hb
    have ownT := ownM_below ownT hb
    have hT := hT.below hb
    clear hb
    clear g0 g1 g2 lv
    have hX1 := Sl.of_own hown
    clear hown
    obtain ⟨g0, g1, g2⟩ := hV.got
    have lv := hV.lt
    go_wp2_with fail
    refine (rputm_any _ AT cT R v _ hRl ownT HSD.out).mono ?_
    rintro e z3 ⟨⟨AX2, cX2, rfl, hown⟩, hb⟩
    have hB3 := since_step hB3 hb
    have hV := hV.below hb
    have ownT := ownM_below ownT hb
    have hT := hT.below hb
    have hX1 := hX1.below hb
    clear hb
    clear g0 g1 g2 lv
    have hX2 := Sl.of_own hown
    clear hown
    obtain ⟨g0, g1, g2⟩ := hV.got
    have lv := hV.lt
    go_wp2_with fail
    refine (mpriced_any AT cT R a2 a3 _ hRl hT).mono ?_
    rintro e z4 ⟨⟨AX3, cX3, rfl, hown⟩, hb⟩
    have hB3 := since_step hB3 hb
    have hV := hV.below hb
    have ownT := ownM_below ownT hb
    have hT := hT.below hb
    have hX1 := hX1.below hb
    have hX2 := hX2.below hb
    clear hb
    clear g0 g1 g2 lv
    have hX3 := Sl.of_own hown
    clear hown
    obtain ⟨g0, g1, g2⟩ := hV.got
    have lv := hV.lt
    go_wp2_with fail
    refine (rpriced_any AT cT R a2 a3 _ hRl hT).mono ?_
    rintro e z5 ⟨⟨AX4, cX4, rfl, hown⟩, hb⟩
    have hB3 := since_step hB3 hb
    have hV := hV.below hb
    have ownT := ownM_below ownT hb
    have hT := hT.below hb
    have hX1 := hX1.below hb
    have hX2 := hX2.below hb
    have hX3 := hX3.below hb
    clear hb
    clear g0 g1 g2 lv
    have hX4 := Sl.of_own hown
    clear hown
    obtain ⟨g0, g1, g2⟩ := hV.got
    have lv := hV.lt
    go_wp2_with fail
    refine (mfind_any AT cT R a2 _ (by omega) hT).mono ?_
    rw [HPV.out, HPQ.out]
    try unfold Ax.val
    rintro e z6 ⟨rfl, hb⟩
    have hB3 := since_step hB3 hb
    have hV := hV.below hb
    have ownT := ownM_below ownT hb
    have hT := hT.below hb
    have hX1 := hX1.below hb
    have hX2 := hX2.below hb
    have hX3 := hX3.below hb
    have hX4 := hX4.below hb
    clear hb
    clear g0 g1 g2 lv
    obtain ⟨g0, g1, g2⟩ := hV.got
    have lv := hV.lt
    go_wp2_with fail
    have hP1 := Ax.Bx.new z6 pv
    have hA := (Below.refl z6.heap.size z6).alloc (Nat.le_refl _) (.cells pv.cells.toArray 24)
    have hV := hV.below hA
    have ownT := ownM_below ownT hA
    have hT := hT.below hA
    have hX1 := hX1.below hA
    have hX2 := hX2.below hA
    have hX3 := hX3.below hA
    have hX4 := hX4.below hA
    have hB3 := since_step hB3 hA
    clear hA
    refine (rfindm_any AT cT R a2 _ (by omega) hT).mono ?_
    rw [HPV.out, HPQ.out]
    try unfold Ax.val
    rintro e z7 ⟨rfl, hb⟩
    have hB3 := since_step hB3 hb
    have hV := hV.below hb
    have ownT := ownM_below ownT hb
    have hT := hT.below hb
    have hX1 := hX1.below hb
    have hX2 := hX2.below hb
    have hX3 := hX3.below hb
    have hX4 := hX4.below hb
    have hP1 := hP1.below hb
    clear hb
    clear g0 g1 g2 lv
    obtain ⟨g0, g1, g2⟩ := hV.got
    have lv := hV.lt
    go_wp2_with fail
    have hP2 := Ax.Bx.new z7 pv
    have hA := (Below.refl z7.heap.size z7).alloc (Nat.le_refl _) (.cells pv.cells.toArray 24)
    have hV := hV.below hA
    have ownT := ownM_below ownT hA
    have hT := hT.below hA
    have hX1 := hX1.below hA
    have hX2 := hX2.below hA
    have hX3 := hX3.below hA
    have hX4 := hX4.below hA
    have hP1 := hP1.below hA
    have hB3 := since_step hB3 hA
    clear hA
    refine (msame_self AX1 AX2 cX1 cX2 _ _ hpl hX1 hX2).mono ?_
    rintro e z8 ⟨rfl, hb⟩
    have hB3 := since_step hB3 hb
    have hV := hV.below hb
    have ownT := ownM_below ownT hb
    have hT := hT.below hb
    have hX1 := hX1.below hb
    have hX2 := hX2.below hb
    have hX3 := hX3.below hb
    have hX4 := hX4.below hb
    have hP1 := hP1.below hb
    have hP2 := hP2.below hb
    clear hb
    clear g0 g1 g2 lv
    obtain ⟨g0, g1, g2⟩ := hV.got
    have lv := hV.lt
    go_wp2_with fail
    refine (msame_self AX3 AX4 cX3 cX4 _ _ hsl hX3 hX4).mono ?_
    rintro e z9 ⟨rfl, hb⟩
    have hB3 := since_step hB3 hb
    have hV := hV.below hb
    have ownT := ownM_below ownT hb
    have hT := hT.below hb
    have hX1 := hX1.below hb
    have hX2 := hX2.below hb
    have hX3 := hX3.below hb
    have hX4 := hX4.below hb
    have hP1 := hP1.below hb
    have hP2 := hP2.below hb
    clear hb
    clear g0 g1 g2 lv
    obtain ⟨p0, p1, p2⟩ := hP1.got
    obtain ⟨s0, s1, s2⟩ := hP2.got
    obtain ⟨g0, g1, g2⟩ := hV.got
    have lv := hV.lt
    go_wp2_with fail
    refine (lives12_any _).mono ?_
    rintro e z10 ⟨rfl, hb⟩
    have hB3 := since_step hB3 hb
    have hV := hV.below hb
    clear hb
    clear g0 g1 g2 lv
    go_wp2_with fail
    go_ret
    exact ⟨rfl, hB3⟩
  · have h1 : (if okM v then (0 : Int) else 2) = 2 := if_neg hok
    have h2 : decide (okM v) = false := decide_eq_false hok
    rw [h1] at HCK
    rw [h2] at HIS
    clear h1 h2 hok
    unfold Ax.val at *
    go_enter Try.func3, Try.ntmps3
    go_upto_region 1 with fail
    unfold Ax.cells at hB3 hV hs
    generalize hWW : w.alloc (.cells #[.int .i64 v.id, .int .i64 v.price, .int .i64 v.hc] 24) = W at *
    clear hWW
    have hszW : w.heap.size ≤ W.heap.size := hB3.size
    have HV : Hid (∀ V, Below W.heap.size W V → Ax.Bx V w.heap.size v) := Lib.hid fun V hV' => hV.below hV'
    have HS : Hid (∀ V, Below W.heap.size W V → Sl V a0 (rc Ax.cells l)) := Lib.hid fun V hV' => hs.below hV'
    clear hs hV
    go_wp2_with fail
    refine wp_region_held_drew (S := (fun V => Below W.heap.size W V)) (by kernel_rfl) (by exact (Below.refl _ _).drew) (fun hHeld => ?_)
    refine wpAnyH_take (i := 0) (oi := { dst := some 21, op := _, type := _, pos := _, after := _, guard := _ }) (v := ?_) rfl (by kernel_rfl) (by kernel_rfl) (by kernel_rfl) (fun _ _ _ h => h) (Or.inl ⟨by rfl, ?_⟩) hHeld ?_
    rotate_left
    · (intro w hSw; obtain ⟨g0, g1, g2⟩ := (HV.out _ hSw).got; go_simp <;> with_reducible rfl)
    try simp only [Act.put, List.setIfInBounds_toArray, List.set_cons_zero, List.set_cons_succ]
    refine wpAnyH_take (i := 3) (oi := { dst := some 24, op := _, type := _, pos := _, after := _, guard := _ }) (v := ?_) rfl (by kernel_rfl) (by kernel_rfl) (by kernel_rfl) (fun _ _ _ h => h) (Or.inl ⟨by rfl, ?_⟩) hHeld ?_
    rotate_left
    · (intro w hSw; obtain ⟨g0, g1, g2⟩ := (HV.out _ hSw).got; go_simp <;> with_reducible rfl)
    try simp only [Act.put, List.setIfInBounds_toArray, List.set_cons_zero, List.set_cons_succ]
    refine wpAnyH_ready (rs := [1]) (by kernel_rfl) (by simp) ?_
    refine AllReadyH.cons (o := { dst := some 22, op := _, type := _, pos := _, after := _, guard := _ }) rfl (fun K hK => ?_) AllReadyH.nil
    go_simp
    refine (HCK.out _).mono ?_
    rintro e r1 ⟨rfl, hk1⟩
    have hKeep := since_step hHeld hk1
    go_wp2_with fail
    refine hK.out _ _ (by (try dsimp only); exact hKeep) (fun hHeld => ?_)
    clear hK K hKeep
    try simp only [Act.put, List.setIfInBounds_toArray, List.set_cons_zero, List.set_cons_succ]
    refine wpAnyH_take (i := 2) (oi := { dst := some 23, op := _, type := _, pos := _, after := _, guard := _ }) (v := ?_) rfl (by kernel_rfl) (by kernel_rfl) (by kernel_rfl) (fun _ _ _ h => h) (Or.inl ⟨by rfl, ?_⟩) hHeld ?_
    rotate_left
    · (intro w hSw; obtain ⟨g0, g1, g2⟩ := (HV.out _ hSw).got; go_simp <;> with_reducible rfl)
    try simp only [Act.put, List.setIfInBounds_toArray, List.set_cons_zero, List.set_cons_succ]
    refine wpAnyH_ready (rs := [4]) (by kernel_rfl) (by simp) ?_
    refine AllReadyH.cons (o := { dst := some 25, op := _, type := _, pos := _, after := _, guard := _ }) rfl (fun K hK => ?_) AllReadyH.nil
    go_simp
    refine (HIS.out _).mono ?_
    rintro e r2 ⟨rfl, hk2⟩
    have hKeep := since_step hHeld hk2
    go_wp2_with fail
    refine hK.out _ _ (by (try dsimp only); exact hKeep) (fun hHeld => ?_)
    clear hK K hKeep
    try simp only [Act.put, List.setIfInBounds_toArray, List.set_cons_zero, List.set_cons_succ]
    refine wpAnyH_take (i := 5) (oi := { dst := some 26, op := _, type := _, pos := _, after := _, guard := _ }) (v := ?_) rfl (by kernel_rfl) (by kernel_rfl) (by kernel_rfl) (fun _ _ _ h => h) (Or.inl ⟨by rfl, ?_⟩) hHeld ?_
    rotate_left
    · (intro w hSw; obtain ⟨g0, g1, g2⟩ := (HV.out _ hSw).got; go_simp <;> with_reducible rfl)
    try simp only [Act.put, List.setIfInBounds_toArray, List.set_cons_zero, List.set_cons_succ]
    refine wpAnyH_done (by kernel_rfl) ?_ _
    have hs := HS.out _ hHeld
    have hV := HV.out _ hHeld
    have hB3 := hB3.trans (hHeld.mono hszW)
    have hcs := @cell_set
    obtain ⟨g0, g1, g2⟩ := hV.got
    have lv := hV.lt
    go_wp2_with fail
    refine (rtable_any a0 c0 l _ hs).mono ?_
    rintro e z1 ⟨⟨R, AT, cT, rfl, ownT, hsd, hR10⟩, hb⟩
    have hB3 := since_step hB3 hb
    have hV := hV.below hb
    clear hb
    clear g0 g1 g2 lv
    have hT := Sl.of_own ownT
    have hRl : R.length ≤ 900000 := by omega
    have hpl : (putMR R v).2.length ≤ 1000000 := Nat.le_trans (putMR_len R v) (by omega)
    have hsl : (priceR R a2 a3).2.length ≤ 1000000 := Nat.le_trans (priceR_len R a2 a3) (by omega)
    have HSD := Lib.hid hsd
    clear hsd
    obtain ⟨pv, hpv⟩ : ∃ y, findM R a2 = y := ⟨_, rfl⟩
    obtain ⟨pq, hpq⟩ : ∃ y, hasM R a2 = y := ⟨_, rfl⟩
    have HPV := Lib.hid hpv
    have HPQ := Lib.hid hpq
    clear hpv hpq
    obtain ⟨g0, g1, g2⟩ := hV.got
    have lv := hV.lt
    go_wp2_with fail
    refine (mput_any AT cT R v _ hRl hT).mono ?_
    rintro e z2 ⟨⟨AX1, cX1, rfl, hown⟩, hb⟩
    have hB3 := since_step hB3 hb
    have hV := hV.below hb
    have ownT := ownM_below ownT hb
    have hT := hT.below hb
    clear hb
    clear g0 g1 g2 lv
    have hX1 := Sl.of_own hown
    clear hown
    obtain ⟨g0, g1, g2⟩ := hV.got
    have lv := hV.lt
    go_wp2_with fail
    refine (rputm_any _ AT cT R v _ hRl ownT HSD.out).mono ?_
    rintro e z3 ⟨⟨AX2, cX2, rfl, hown⟩, hb⟩
    have hB3 := since_step hB3 hb
    have hV := hV.below hb
    have ownT := ownM_below ownT hb
    have hT := hT.below hb
    have hX1 := hX1.below hb
    clear hb
    clear g0 g1 g2 lv
    have hX2 := Sl.of_own hown
    clear hown
    obtain ⟨g0, g1, g2⟩ := hV.got
    have lv := hV.lt
    go_wp2_with fail
    refine (mpriced_any AT cT R a2 a3 _ hRl hT).mono ?_
    rintro e z4 ⟨⟨AX3, cX3, rfl, hown⟩, hb⟩
    have hB3 := since_step hB3 hb
    have hV := hV.below hb
    have ownT := ownM_below ownT hb
    have hT := hT.below hb
    have hX1 := hX1.below hb
    have hX2 := hX2.below hb
    clear hb
    clear g0 g1 g2 lv
    have hX3 := Sl.of_own hown
    clear hown
    obtain ⟨g0, g1, g2⟩ := hV.got
    have lv := hV.lt
    go_wp2_with fail
    refine (rpriced_any AT cT R a2 a3 _ hRl hT).mono ?_
    rintro e z5 ⟨⟨AX4, cX4, rfl, hown⟩, hb⟩
    have hB3 := since_step hB3 hb
    have hV := hV.below hb
    have ownT := ownM_below ownT hb
    have hT := hT.below hb
    have hX1 := hX1.below hb
    have hX2 := hX2.below hb
    have hX3 := hX3.below hb
    clear hb
    clear g0 g1 g2 lv
    have hX4 := Sl.of_own hown
    clear hown
    obtain ⟨g0, g1, g2⟩ := hV.got
    have lv := hV.lt
    go_wp2_with fail
    refine (mfind_any AT cT R a2 _ (by omega) hT).mono ?_
    rw [HPV.out, HPQ.out]
    try unfold Ax.val
    rintro e z6 ⟨rfl, hb⟩
    have hB3 := since_step hB3 hb
    have hV := hV.below hb
    have ownT := ownM_below ownT hb
    have hT := hT.below hb
    have hX1 := hX1.below hb
    have hX2 := hX2.below hb
    have hX3 := hX3.below hb
    have hX4 := hX4.below hb
    clear hb
    clear g0 g1 g2 lv
    obtain ⟨g0, g1, g2⟩ := hV.got
    have lv := hV.lt
    go_wp2_with fail
    have hP1 := Ax.Bx.new z6 pv
    have hA := (Below.refl z6.heap.size z6).alloc (Nat.le_refl _) (.cells pv.cells.toArray 24)
    have hV := hV.below hA
    have ownT := ownM_below ownT hA
    have hT := hT.below hA
    have hX1 := hX1.below hA
    have hX2 := hX2.below hA
    have hX3 := hX3.below hA
    have hX4 := hX4.below hA
    have hB3 := since_step hB3 hA
    clear hA
    refine (rfindm_any AT cT R a2 _ (by omega) hT).mono ?_
    rw [HPV.out, HPQ.out]
    try unfold Ax.val
    rintro e z7 ⟨rfl, hb⟩
    have hB3 := since_step hB3 hb
    have hV := hV.below hb
    have ownT := ownM_below ownT hb
    have hT := hT.below hb
    have hX1 := hX1.below hb
    have hX2 := hX2.below hb
    have hX3 := hX3.below hb
    have hX4 := hX4.below hb
    have hP1 := hP1.below hb
    clear hb
    clear g0 g1 g2 lv
    obtain ⟨g0, g1, g2⟩ := hV.got
    have lv := hV.lt
    go_wp2_with fail
    have hP2 := Ax.Bx.new z7 pv
    have hA := (Below.refl z7.heap.size z7).alloc (Nat.le_refl _) (.cells pv.cells.toArray 24)
    have hV := hV.below hA
    have ownT := ownM_below ownT hA
    have hT := hT.below hA
    have hX1 := hX1.below hA
    have hX2 := hX2.below hA
    have hX3 := hX3.below hA
    have hX4 := hX4.below hA
    have hP1 := hP1.below hA
    have hB3 := since_step hB3 hA
    clear hA
    refine (msame_self AX1 AX2 cX1 cX2 _ _ hpl hX1 hX2).mono ?_
    rintro e z8 ⟨rfl, hb⟩
    have hB3 := since_step hB3 hb
    have hV := hV.below hb
    have ownT := ownM_below ownT hb
    have hT := hT.below hb
    have hX1 := hX1.below hb
    have hX2 := hX2.below hb
    have hX3 := hX3.below hb
    have hX4 := hX4.below hb
    have hP1 := hP1.below hb
    have hP2 := hP2.below hb
    clear hb
    clear g0 g1 g2 lv
    obtain ⟨g0, g1, g2⟩ := hV.got
    have lv := hV.lt
    go_wp2_with fail
    refine (msame_self AX3 AX4 cX3 cX4 _ _ hsl hX3 hX4).mono ?_
    rintro e z9 ⟨rfl, hb⟩
    have hB3 := since_step hB3 hb
    have hV := hV.below hb
    have ownT := ownM_below ownT hb
    have hT := hT.below hb
    have hX1 := hX1.below hb
    have hX2 := hX2.below hb
    have hX3 := hX3.below hb
    have hX4 := hX4.below hb
    have hP1 := hP1.below hb
    have hP2 := hP2.below hb
    clear hb
    clear g0 g1 g2 lv
    obtain ⟨p0, p1, p2⟩ := hP1.got
    obtain ⟨s0, s1, s2⟩ := hP2.got
    obtain ⟨g0, g1, g2⟩ := hV.got
    have lv := hV.lt
    go_wp2_with fail
    refine (lives12_any _).mono ?_
    rintro e z10 ⟨rfl, hb⟩
    have hB3 := since_step hB3 hb
    have hV := hV.below hb
    clear hb
    clear g0 g1 g2 lv
    go_wp2_with fail
    go_ret
    exact ⟨rfl, hB3⟩
end Go.Proofs.Ytjhdccnkfnaapaa
