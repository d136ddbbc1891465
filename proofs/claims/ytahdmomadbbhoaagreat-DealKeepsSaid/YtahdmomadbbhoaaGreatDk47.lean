import Derived.Test.YtahdmomadbbhoaaGreatDk46
section
namespace Go.Proofs.YtahdmomadbbhoaaGreat
open Go.ChangeShapes Go.WideShapes Go.ChangeAt Go.RowKit
set_option linter.unusedVariables false
set_option linter.unusedSimpArgs false

def FewV (v0 w w' : World) (e : Ending) : Prop :=
  ∃ (R : List Po) (cs : List Pc) (A' : Option Addr) (c' : Nat), e = .returned (.slice A' R.length c') ∧ w'.ownsRow w.heap.size 97 3 (.slice A' R.length c') R.length (rc Po.cells R) ∧ PoTab v0 R cs ∧ R.length ≤ 12 ∧ GoodH cs ∧ KeysH cs
def FRelV (n : Nat) (v0 w : World) (out i : Value) (wr : World) : Prop :=
  ∃ (k : Nat) (R : List Po) (cs : List Pc) (A' : Option Addr) (c' : Nat), k ≤ n ∧ k ≤ 12 ∧ i = .int .i64 k ∧ out = .slice A' R.length c' ∧ R.length ≤ k ∧ wr.ownsRow w.heap.size 97 3 (.slice A' R.length c') R.length (rc Po.cells R) ∧ PoTab v0 R cs ∧ GoodH cs ∧ KeysH cs ∧ Below w.heap.size w wr
set_option maxHeartbeats 4000000 in
set_option maxRecDepth 100000 in
theorem few19v_any (A : Option Addr) (cap : Nat) (l : List Po) (v0 w : World) (hv : Below v0.heap.size v0 w) (hs : Sl w A (rc Po.cells l)) (hd : ∀ g ∈ l, InK v0 g) :
    Calls Tryz.prog 28 #[.slice A l.length cap] w fun e w' => FewV v0 w w' e ∧ Below w.heap.size w w' := by
  go_enter Tryz.func28, Tryz.ntmps28
  go_wp2_with fail
  go_loopw [3, 4] (fun out i wr => FRelV l.length v0 w out i wr) (fun _ i _ => l.length - (intOf i).toNat)
  case atStart => exact ⟨0, [], [], none, 0, by omega, by omega, rfl, rfl, by simp, own_nil _ _ _, PoTab.nil _, ⟨(fun g h => by cases h), (fun g h => by cases h)⟩, (fun g h => by cases h), Below.refl _ _⟩
  case round =>
    obtain ⟨k, R, cs, A', c', hk, hk10, rfl, rfl, hRk, hown, htb, hgd, hky, hB⟩ := hrel
    by_cases hgo : k < l.length ∧ k < 12
    · obtain ⟨hlt, hlt10⟩ := hgo
      obtain ⟨b, o, rfl, hbw, hg⟩ := hs.po hlt
      obtain ⟨⟨e6, e7⟩, L, e1, e2, e3, e4, e5⟩ := hd l[k] (List.getElem_mem hlt)
      have hlk : (k : Int) < (l.length : Int) := by omega
      have hlk10 : (k : Int) < 12 := by omega
      have hge : (0 : Int) ≤ (k : Int) := by omega
      have HG : Hid (∀ V, Below w.heap.size w V → l[k].at V b (o + k * 3)) := Lib.hid fun V hV => Po.at_keep hg fun i => hV.cell (p := ⟨b, i, none⟩) hbw
      clear hg
      generalize l[k] = v at *
      obtain ⟨va, vc, vt, vL, vC⟩ := v
      simp only at e1 e2 e3 e4 e6 e7
      subst e1
      unfold Po.at at HG
      simp only at HG
      have HFW := Lib.hid (fun V h => few11_any vt vC L V e2 e3 h)
      have HSG : Hid (∀ V, Below w.heap.size w V → Sl V vt (rc Lg.cells L)) := Lib.hid fun V hV => (e4.below hv).below hV
      have hT : Sl v0 vt (rc Lg.cells (L.take 12)) := by
        have h := e4.take (12 * 2)
        rw [rc_take Lg.len] at h
        exact h
      have ht20 : (L.take 12).length ≤ 12 := by simp; omega
      have hq20 : ∀ y ∈ L.take 12, In64 y.qty := fun y hy => e5 y (List.mem_of_mem_take hy)
      have HTN : Hid (PoTab v0 (R ++ [⟨va, vc, vt, (L.take 12).length, vC⟩]) (cs ++ [⟨va, vc, L.take 12⟩])) := Lib.hid (htb.app ⟨rfl, rfl, rfl, hT⟩)
      have HGN : Hid (GoodH (cs ++ [⟨va, vc, L.take 12⟩])) := Lib.hid ⟨fun g hg => by
        rcases List.mem_append.1 hg with hg | hg
        · exact hgd.1 g hg
        · rw [List.mem_singleton.1 hg]; exact ht20, fun g hg => by
        rcases List.mem_append.1 hg with hg | hg
        · exact hgd.2 g hg
        · rw [List.mem_singleton.1 hg]; exact hq20⟩
      have HKN : Hid (KeysH (cs ++ [⟨va, vc, L.take 12⟩])) := Lib.hid fun g hg => by
        rcases List.mem_append.1 hg with hg | hg
        · exact hky g hg
        · rw [List.mem_singleton.1 hg]; exact ⟨e6, e7⟩
      clear hd hs e2 e3 e4 e5 e6 e7 hT ht20 hq20 htb hgd hky
      generalize L.take 12 = M at *
      go_wp2_with fail
      refine wp_region_held_drew (S := (fun V => Below w.heap.size w V)) (by kernel_rfl) (by exact hB.drew) (fun hHeld => ?_)
      refine wpAnyH_take (i := 0) (oi := { dst := some 15, op := _, type := _, pos := _, after := _, guard := _ }) (v := ?_) rfl (by kernel_rfl) (by kernel_rfl) (by kernel_rfl) (fun _ _ _ h => h) (Or.inl ⟨by rfl, ?_⟩) hHeld ?_
      rotate_left
      · (intro w hSw; obtain ⟨g0, g1, g2⟩ := HG.out _ hSw; go_simp <;> with_reducible rfl)
      try simp only [Act.put, List.setIfInBounds_toArray, List.set_cons_zero, List.set_cons_succ]
      refine wpAnyH_take (i := 1) (oi := { dst := some 16, op := _, type := _, pos := _, after := _, guard := _ }) (v := ?_) rfl (by kernel_rfl) (by kernel_rfl) (by kernel_rfl) (fun _ _ _ h => h) (Or.inl ⟨by rfl, ?_⟩) hHeld ?_
      rotate_left
      · (intro w hSw; obtain ⟨g0, g1, g2⟩ := HG.out _ hSw; go_simp <;> with_reducible rfl)
      try simp only [Act.put, List.setIfInBounds_toArray, List.set_cons_zero, List.set_cons_succ]
      refine wpAnyH_take (i := 2) (oi := { dst := some 17, op := _, type := _, pos := _, after := _, guard := _ }) (v := ?_) rfl (by kernel_rfl) (by kernel_rfl) (by kernel_rfl) (fun _ _ _ h => h) (Or.inl ⟨by rfl, ?_⟩) hHeld ?_
      rotate_left
      · (intro w hSw; obtain ⟨g0, g1, g2⟩ := HG.out _ hSw; go_simp <;> with_reducible rfl)
      try simp only [Act.put, List.setIfInBounds_toArray, List.set_cons_zero, List.set_cons_succ]
      refine wpAnyH_take (i := 3) (oi := { dst := some 18, op := _, type := _, pos := _, after := _, guard := _ }) (v := ?_) rfl (by kernel_rfl) (by kernel_rfl) (by kernel_rfl) (fun _ _ _ h => h) (Or.inl ⟨by rfl, ?_⟩) hHeld ?_
      rotate_left
      · (intro w hSw; obtain ⟨g0, g1, g2⟩ := HG.out _ hSw; go_simp <;> with_reducible rfl)
      try simp only [Act.put, List.setIfInBounds_toArray, List.set_cons_zero, List.set_cons_succ]
      refine wpAnyH_take (i := 4) (oi := { dst := some 19, op := _, type := _, pos := _, after := _, guard := _ }) (v := ?_) rfl (by kernel_rfl) (by kernel_rfl) (by kernel_rfl) (fun _ _ _ h => h) (Or.inl ⟨by rfl, ?_⟩) hHeld ?_
      rotate_left
      · (intro w hSw; obtain ⟨g0, g1, g2⟩ := HG.out _ hSw; go_simp <;> with_reducible rfl)
      try simp only [Act.put, List.setIfInBounds_toArray, List.set_cons_zero, List.set_cons_succ]
      refine wpAnyH_take (i := 5) (oi := { dst := some 20, op := _, type := _, pos := _, after := _, guard := _ }) (v := ?_) rfl (by kernel_rfl) (by kernel_rfl) (by kernel_rfl) (fun _ _ _ h => h) (Or.inl ⟨by rfl, ?_⟩) hHeld ?_
      rotate_left
      · (intro w hSw; obtain ⟨g0, g1, g2⟩ := HG.out _ hSw; go_simp <;> with_reducible rfl)
      try simp only [Act.put, List.setIfInBounds_toArray, List.set_cons_zero, List.set_cons_succ]
      refine wpAnyH_take (i := 6) (oi := { dst := some 21, op := _, type := _, pos := _, after := _, guard := _ }) (v := ?_) rfl (by kernel_rfl) (by kernel_rfl) (by kernel_rfl) (fun _ _ _ h => h) (Or.inl ⟨by rfl, ?_⟩) hHeld ?_
      rotate_left
      · (intro w hSw; obtain ⟨g0, g1, g2⟩ := HG.out _ hSw; go_simp <;> with_reducible rfl)
      try simp only [Act.put, List.setIfInBounds_toArray, List.set_cons_zero, List.set_cons_succ]
      refine wpAnyH_take (i := 7) (oi := { dst := some 22, op := _, type := _, pos := _, after := _, guard := _ }) (v := ?_) rfl (by kernel_rfl) (by kernel_rfl) (by kernel_rfl) (fun _ _ _ h => h) (Or.inl ⟨by rfl, ?_⟩) hHeld ?_
      rotate_left
      · (intro w hSw; obtain ⟨g0, g1, g2⟩ := HG.out _ hSw; go_simp <;> with_reducible rfl)
      try simp only [Act.put, List.setIfInBounds_toArray, List.set_cons_zero, List.set_cons_succ]
      refine wpAnyH_take (i := 8) (oi := { dst := some 23, op := _, type := _, pos := _, after := _, guard := _ }) (v := ?_) rfl (by kernel_rfl) (by kernel_rfl) (by kernel_rfl) (fun _ _ _ h => h) (Or.inl ⟨by rfl, ?_⟩) hHeld ?_
      rotate_left
      · (intro w hSw; obtain ⟨g0, g1, g2⟩ := HG.out _ hSw; go_simp <;> with_reducible rfl)
      try simp only [Act.put, List.setIfInBounds_toArray, List.set_cons_zero, List.set_cons_succ]
      refine wpAnyH_take (i := 9) (oi := { dst := some 24, op := _, type := _, pos := _, after := _, guard := _ }) (v := ?_) rfl (by kernel_rfl) (by kernel_rfl) (by kernel_rfl) (fun _ _ _ h => h) (Or.inl ⟨by rfl, ?_⟩) hHeld ?_
      rotate_left
      · (intro w hSw; obtain ⟨g0, g1, g2⟩ := HG.out _ hSw; go_simp <;> with_reducible rfl)
      try simp only [Act.put, List.setIfInBounds_toArray, List.set_cons_zero, List.set_cons_succ]
      refine wpAnyH_take (i := 10) (oi := { dst := some 25, op := _, type := _, pos := _, after := _, guard := _ }) (v := ?_) rfl (by kernel_rfl) (by kernel_rfl) (by kernel_rfl) (fun _ _ _ h => h) (Or.inl ⟨by rfl, ?_⟩) hHeld ?_
      rotate_left
      · (intro w hSw; obtain ⟨g0, g1, g2⟩ := HG.out _ hSw; go_simp <;> with_reducible rfl)
      try simp only [Act.put, List.setIfInBounds_toArray, List.set_cons_zero, List.set_cons_succ]
      refine wpAnyH_ready (rs := [11]) (by kernel_rfl) (by simp) ?_
      refine AllReadyH.cons (o := { dst := some 26, op := _, type := _, pos := _, after := _, guard := _ }) rfl (fun K hK => ?_) AllReadyH.nil
      go_simp
      refine (HFW.out _ (HSG.out _ hHeld)).mono ?_
      rintro e u1 ⟨rfl, hk1⟩
      have hKeep := since_step hHeld hk1
      have ho1 := own_below (own_below hown ((Below.refl _ _).drew)) hk1
      go_wp2_with fail
      refine hK.out _ _ (by (try dsimp only); exact hKeep) (fun hHeld => ?_)
      clear hK K hKeep
      try simp only [Act.put, List.setIfInBounds_toArray, List.set_cons_zero, List.set_cons_succ]
      refine wpAnyH_take (i := 12) (oi := { dst := some 27, op := _, type := _, pos := _, after := _, guard := _ }) (v := ?_) rfl (by kernel_rfl) (by kernel_rfl) (by kernel_rfl) (fun _ _ _ h => h) (Or.inl ⟨by rfl, ?_⟩) hHeld ?_
      rotate_left
      · (intro w hSw; obtain ⟨g0, g1, g2⟩ := HG.out _ hSw; go_simp <;> with_reducible rfl)
      try simp only [Act.put, List.setIfInBounds_toArray, List.set_cons_zero, List.set_cons_succ]
      refine wpAnyH_ready (rs := [13]) (by kernel_rfl) (by simp) ?_
      refine AllReadyH.cons (o := { dst := some 28, op := _, type := _, pos := _, after := _, guard := _ }) rfl (fun K hK => ?_) AllReadyH.nil
      have hHd := hHeld
      obtain ⟨g0, g1, g2⟩ := HG.out _ hHd
      have hKeep := since_alloc hHd (.cells (⟨va, vc, vt, M.length, vC⟩ : Po).cells.toArray 97)
      have HU := Po.Bx.new u1 ⟨va, vc, vt, M.length, vC⟩
      have hown1 := World.ownsRow.alloc (w := u1) ho1 (.cells (⟨va, vc, vt, M.length, vC⟩ : Po).cells.toArray 97)
      skip
      go_simp
      refine hK.out _ _ (by (try dsimp only); exact hKeep) (fun hHeld => ?_)
      clear hK K hKeep
      try simp only [Act.put, List.setIfInBounds_toArray, List.set_cons_zero, List.set_cons_succ]
      refine wpAnyH_ready (rs := [14]) (by kernel_rfl) (by simp) ?_
      refine AllReadyH.cons (o := { dst := some 29, op := _, type := _, pos := _, after := _, guard := _ }) rfl (fun K hK => ?_) AllReadyH.nil
      refine step_app rfl (.tmp 15) (.tmp 28) rfl EPo (n := R.length) (m := 1) (c := c') (d := 1) (A := A') (B := some ⟨u1.heap.size, 0, none⟩) (by simp [Act.eval, Act.put]; done) (by simp [Act.eval, Act.put]; done) hown1 (by rw [Po.len]) HU.sl (Po.one _) (by unfold maxLen; omega) (by omega) hHeld.size ?_
      intro A2 c2 u2 hown2 hg2 hb2
      have hKeep := hHeld.trans hb2
      refine hK.out _ _ (by (try dsimp only); exact hKeep) (fun hHeld => ?_)
      clear hK K hKeep
      try simp only [Act.put, List.setIfInBounds_toArray, List.set_cons_zero, List.set_cons_succ]
      refine wpAnyH_take (i := 15) (oi := { dst := some 3, op := _, type := _, pos := _, after := _, guard := _ }) (v := ?_) rfl (by kernel_rfl) (by kernel_rfl) (by kernel_rfl) (fun _ _ _ h => h) (Or.inl ⟨by rfl, ?_⟩) hHeld ?_
      rotate_left
      · (intro w hSw; obtain ⟨g0, g1, g2⟩ := HG.out _ hSw; go_simp <;> with_reducible rfl)
      try simp only [Act.put, List.setIfInBounds_toArray, List.set_cons_zero, List.set_cons_succ]
      refine wpAnyH_done (by kernel_rfl) ?_ _
      have hB2 := hHeld
      go_wp2_with fail
      go_roundw
      case rel =>
        refine ⟨k + 1, R ++ [⟨va, vc, vt, M.length, vC⟩], cs ++ [⟨va, vc, M⟩], A2, c2, by omega, by omega, by go_num, by simp, by simp; omega, ?_, HTN.out, HGN.out, HKN.out, hB2⟩
        rw [rc_append]; simpa [rc] using hown2
      case measure => simp [intOf]; omega
    · have hend : ¬ ((k : Int) < (l.length : Int)) ∨ ((k : Int) < (l.length : Int) ∧ ¬ ((k : Int) < 12)) := by omega
      clear hgo
      rcases hend with h1 | ⟨h1, h2⟩
      all_goals
        go_wp2_with fail
        go_ret
        exact ⟨⟨R, cs, A', c', rfl, hown, htb, by omega, hgd, hky⟩, hB⟩
def FewDV (v0 : World) (B : Nat) (w' : World) (e : Ending) (FA : Option Addr) (fc : Nat) (p : List Fw) : Prop :=
  ∃ (R : List Po) (cs : List Pc) (A' : Option Addr) (c' : Nat), e = .returned (.agg #[.slice A' R.length c', .slice FA p.length fc]) ∧ w'.ownsRow B 97 3 (.slice A' R.length c') R.length (rc Po.cells R) ∧ PoTab v0 R cs ∧ R.length ≤ 12 ∧ GoodH cs ∧ KeysH cs
set_option maxHeartbeats 8000000 in
set_option maxRecDepth 100000 in
theorem few21v_any (A : Option Addr) (cap : Nat) (l : List Po) (FA : Option Addr) (fn fc : Nat) (p : List Fw) (v0 w : World) (hv : Below v0.heap.size v0 w) (hs : Sl w A (rc Po.cells l)) (hd : ∀ g ∈ l, InK v0 g)
    (HF : Hid (∀ V, Below w.heap.size w V → Calls Tryz.prog 29 #[.slice FA fn fc] V fun e w' => e = .returned (.slice FA p.length fc) ∧ Below V.heap.size V w')) :
    Calls Tryz.prog 6 #[.slice A l.length cap, .slice FA fn fc] w fun e w' => FewDV v0 (w.heap.size + 1) w' e FA fc p ∧ Below w.heap.size w w' := by
  have hB0 := since_alloc (Below.refl _ w) (.cells #[.slice none 0 0, .slice none 0 0] 30)
  have X0 := DB.new w 30
  have HFK := Lib.hid (few19v_any A cap l v0 _ (hv.trans (hB0.mono hv.size)) (hs.below hB0) hd)
  unfold FewV at HFK
  rw [World.size_alloc] at HFK
  have hcs := @cell_set
  clear hs hd
  go_enter Tryz.func6, Tryz.ntmps6
  go_wp2_with fail
  refine HFK.out.mono ?_
  rintro e z1 ⟨⟨R, cs, A', c', rfl, hs, ht, hR, hg, hk⟩, hb⟩
  rw [← World.size_alloc w (.cells #[.slice none 0 0, .slice none 0 0] 30)] at hb
  have hB1 := since_step hB0 hb
  have X1 := X0.below hb
  clear hb HFK
  go_wp2_with fail
  refine (HF.out _ hB1).mono ?_
  rintro e z2 ⟨rfl, hb⟩
  have hB2 := since_step hB1 hb
  have hs2 := own_below hs hb
  have X2 := X1.below hb
  obtain ⟨x0, x1, x2, x3, x4⟩ := X2.got
  have HGH := Lib.hid (And.intro hR (And.intro hg (And.intro hk ht)))
  clear hb HF hs hR hg hk ht
  go_wp2_with fail
  refine bodyPost_ret (v := .agg #[.slice A' R.length c', .slice FA p.length fc]) ?_ rfl ⟨?_, ?_⟩
  · simp [results, Tryz.results6, go_sem, x0, x1, x2, hcs]
  · exact ⟨R, cs, A', c', rfl, own_setFar' (own_setFar' hs2 (p := ⟨w.heap.size, 0, none⟩) (Nat.lt_succ_self _) _) (p := ⟨w.heap.size, 1, none⟩) (Nat.lt_succ_self _) _, HGH.out.2.2.2, HGH.out.1, HGH.out.2.1, HGH.out.2.2.1⟩
  · repeat' (first | with_reducible exact hB2 | with_reducible refine Below.setCell ?_ ?_ _ | with_reducible refine Below.alloc ?_ ?_ _)
    all_goals first | (simp; done) | (simp; omega)
def Lies (w : World) (B T : Nat) (A : Option Addr) (xs : List Value) : Prop := Sl w A xs ∧ ∀ b o, A = some ⟨b, o, none⟩ → xs ≠ [] → B ≤ b ∧ b < T
theorem Lies.of_own {w : World} {B c : Nat} {A : Option Addr} {l : List Po} (h : w.ownsRow B 97 3 (.slice A l.length c) l.length (rc Po.cells l)) : Lies w B w.heap.size A (rc Po.cells l) := by
  have hs := Sl.of_own h
  refine ⟨hs, fun b o hA hne => ?_⟩
  have hl : 0 < l.length := by
    rcases Nat.eq_zero_or_pos l.length with h0 | h0
    · rw [List.eq_nil_of_length_eq_zero h0] at hne; exact absurd rfl hne
    · exact h0
  refine ⟨Fr.own h b o hA hl, ?_⟩
  obtain ⟨b', o', hA', hc⟩ := hs.at_ (j := 0) (by rw [rc_length Po.len]; omega)
  rw [hA] at hA'
  injection hA' with hA'
  injection hA' with e1 e2
  subst e1
  exact World.block_lt_of_cell? _ _ hc
theorem Lies.below {w w' : World} {B T : Nat} {A : Option Addr} {xs : List Value} (h : Lies w B T A xs) (hb : Below w.heap.size w w') : Lies w' B T A xs := ⟨h.1.below hb, h.2⟩
theorem Lies.set {w : World} {B T : Nat} {A : Option Addr} {xs : List Value} (h : Lies w B T A xs) {p : Addr} (hp : p.block < B ∨ T ≤ p.block) (v : Value) : Lies (w.setCell p v) B T A xs := by
  refine ⟨?_, h.2⟩
  by_cases hne : xs = []
  · subst hne; exact Sl.nil
  · exact h.1.far (fun b o hA => by have := h.2 b o hA hne; omega) v
theorem Bk.far2 {w : World} {b : Nat} {cs : Array Value} (h : Bk w b cs) {p : Addr} (hp : p.block ≠ b) (u : Value) : Bk (w.setCell p u) b cs := by
  refine ⟨by simpa using h.1, fun o => ?_⟩
  rw [cell_set, if_neg (fun e => hp (by rw [e]))]
  exact h.2 o
theorem DB.set {w : World} {g : Nat} (h : DB w g) (u v : Value) : Bk ((w.setCell ⟨g, 0, none⟩ u).setCell ⟨g, 1, none⟩ v) g #[u, v] := by
  obtain ⟨h0, h1, h2, h3, h4⟩ := h.got
  have hk := h.1.2
  refine ⟨by simpa using h0, fun o => ?_⟩
  rcases o with _ | _ | o
  · simp [cell_set, h1, h2]
  · simp [cell_set, h1, h2]
  · have := hk (o + 1 + 1)
    simp [cell_set] at this ⊢
    exact this
def IX (w : World) (g : Nat) (i : Ins) (A : Option Addr) (c : Nat) : Prop := Bk w g #[.int .i64 i.id, .int .i64 i.mult, .int .i64 i.price, .int .i64 i.nxt, .slice A i.mv.length c] ∧ w.frozen? ⟨g, 0, none⟩ = false ∧ w.frozen? ⟨g, 1, none⟩ = false ∧ w.frozen? ⟨g, 2, none⟩ = false ∧ w.frozen? ⟨g, 3, none⟩ = false ∧ w.frozen? ⟨g, 4, none⟩ = false
theorem IX.new (w : World) (i : Ins) (A : Option Addr) (c : Nat) (t : TypeId) : IX (w.alloc (.cells #[.int .i64 i.id, .int .i64 i.mult, .int .i64 i.price, .int .i64 i.nxt, .slice A i.mv.length c] t)) w.heap.size i A c := ⟨Bk.new _ _ _, by simp, by simp, by simp, by simp, by simp⟩
theorem IX.below {w w' : World} {g : Nat} {i : Ins} {A : Option Addr} {c : Nat} (h : IX w g i A c) (hb : Below w.heap.size w w') : IX w' g i A c :=
  ⟨h.1.below hb, (hb.frozen (p := ⟨g, 0, none⟩) h.1.1).trans h.2.1, (hb.frozen (p := ⟨g, 1, none⟩) h.1.1).trans h.2.2.1, (hb.frozen (p := ⟨g, 2, none⟩) h.1.1).trans h.2.2.2.1, (hb.frozen (p := ⟨g, 3, none⟩) h.1.1).trans h.2.2.2.2.1, (hb.frozen (p := ⟨g, 4, none⟩) h.1.1).trans h.2.2.2.2.2⟩
theorem IX.far {w : World} {g : Nat} {i : Ins} {A : Option Addr} {c : Nat} (h : IX w g i A c) {p : Addr} (hp : p.block ≠ g) (u : Value) : IX (w.setCell p u) g i A c :=
  ⟨h.1.far2 hp u, by simpa using h.2.1, by simpa using h.2.2.1, by simpa using h.2.2.2.1, by simpa using h.2.2.2.2.1, by simpa using h.2.2.2.2.2⟩
theorem IX.got {w : World} {g : Nat} {i : Ins} {A : Option Addr} {c : Nat} (h : IX w g i A c) : g < w.heap.size ∧ (w.cell? ⟨g, 0, none⟩ = some (.int .i64 i.id) ∧ w.cell? ⟨g, 1, none⟩ = some (.int .i64 i.mult) ∧ w.cell? ⟨g, 2, none⟩ = some (.int .i64 i.price) ∧ w.cell? ⟨g, 3, none⟩ = some (.int .i64 i.nxt) ∧ w.cell? ⟨g, 4, none⟩ = some (.slice A i.mv.length c)) ∧ (w.frozen? ⟨g, 0, none⟩ = false ∧ w.frozen? ⟨g, 1, none⟩ = false ∧ w.frozen? ⟨g, 2, none⟩ = false ∧ w.frozen? ⟨g, 3, none⟩ = false ∧ w.frozen? ⟨g, 4, none⟩ = false) :=
  ⟨h.1.1, ⟨h.1.2 0, h.1.2 1, h.1.2 2, h.1.2 3, h.1.2 4⟩, h.2⟩
theorem IX.set {w : World} {g : Nat} {i : Ins} {A : Option Addr} {c : Nat} (h : IX w g i A c) (a0 a1 a2 a3 a4 : Value) : Bk (((((w.setCell ⟨g, 0, none⟩ a0).setCell ⟨g, 1, none⟩ a1).setCell ⟨g, 2, none⟩ a2).setCell ⟨g, 3, none⟩ a3).setCell ⟨g, 4, none⟩ a4) g #[a0, a1, a2, a3, a4] := by
  obtain ⟨h0, ⟨h1, h2, h3, h4, h5⟩, _⟩ := h.got
  have hk := h.1.2
  refine ⟨by simpa using h0, fun o => ?_⟩
  rcases o with _ | _ | _ | _ | _ | o
  · simp [cell_set, h1, h2, h3, h4, h5]
  · simp [cell_set, h1, h2, h3, h4, h5]
  · simp [cell_set, h1, h2, h3, h4, h5]
  · simp [cell_set, h1, h2, h3, h4, h5]
  · simp [cell_set, h1, h2, h3, h4, h5]
  · have := hk (o + 1 + 1 + 1 + 1 + 1)
    simp [cell_set] at this ⊢
    exact this
end Go.Proofs.YtahdmomadbbhoaaGreat
end
