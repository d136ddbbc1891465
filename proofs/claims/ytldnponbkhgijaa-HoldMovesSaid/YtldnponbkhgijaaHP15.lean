import Derived.Test.YtldnponbkhgijaaHP08
import Derived.Test.YtldnponbkhgijaaHP09
import Derived.Test.YtldnponbkhgijaaHP14
section
namespace Go.Proofs.Ytldnponbkhgijaa
open Go.ChangeShapes Go.WideShapes Go.ChangeAt Go.RowKit
set_option linter.unusedVariables false
set_option linter.unusedSimpArgs false

theorem rd_ltrowH {w : World} {r : List Value} (h : Rd w (.cat (.int .i64) (.cat (.int .i64) (.cat (.int .i64) .nil))) r) : ∃ g : Lt, r = g.cells ∧ In64 g.qty := by
  obtain ⟨p, q, rfl, ⟨a, rfl, _⟩, ⟨p2, q2, rfl, ⟨b, rfl, _⟩, ⟨p3, q3, rfl, ⟨c, rfl, hc⟩, rfl⟩⟩⟩ := h
  exact ⟨⟨a, b, c⟩, rfl, bd_i64 hc⟩
def InH (w : World) (g : Hd) : Prop := ∃ L : List Lt, g.ltL = L.length ∧ L.length ≤ g.ltC ∧ g.ltC ≤ maxLen ∧ Sl w g.lt (rc Lt.cells L) ∧ ∀ y ∈ L, In64 y.qty
theorem rd_hold {w : World} {r : List Value} (h : Rd w (.cat (.cat (.int .i64) (.cat (.int .i64) .nil)) (.cat (.sl (.cat (.int .i64) (.cat (.int .i64) (.cat (.int .i64) .nil)))) .nil)) r) : ∃ g : Hd, r = g.cells ∧ InH w g := by
  obtain ⟨p, q, rfl, ⟨p1, q1, rfl, ⟨a, rfl, _⟩, ⟨p2, q2, rfl, ⟨c, rfl, _⟩, rfl⟩⟩, ⟨p3, q3, rfl, h4, rfl⟩⟩ := h
  obtain ⟨A, n, k, rows, rfl, h1, h2, h3, h5, h6⟩ := _root_.id h4
  obtain ⟨L, rfl, _, _, hs, hq⟩ := rd_rowsP (f := Lt.cells) (fun r => rd_ltrowH) h4
  exact ⟨⟨a, c, A, L.length, k⟩, rfl, L, rfl, h1, h2, hs, hq⟩
def GoodH (cs : List Hc) : Prop := (∀ g ∈ cs, g.L.length ≤ 20) ∧ ∀ g ∈ cs, ∀ y ∈ g.L, In64 y.qty
def FewH (w' : World) (e : Ending) : Prop :=
  ∃ (R : List Hd) (cs : List Hc) (A' : Option Addr) (c' : Nat), e = .returned (.slice A' R.length c') ∧ Sl w' A' (rc Hd.cells R) ∧ HdTab w' R cs ∧ CapH A' R.length c' ∧ R.length ≤ 10 ∧ GoodH cs
def FRel26 (n : Nat) (w : World) (out i : Value) (wr : World) : Prop :=
  ∃ (k : Nat) (R : List Hd) (cs : List Hc) (A' : Option Addr) (c' : Nat), k ≤ n ∧ k ≤ 10 ∧ i = .int .i64 k ∧ out = .slice A' R.length c' ∧ R.length ≤ k ∧ wr.ownsRow w.heap.size 169 3 (.slice A' R.length c') R.length (rc Hd.cells R) ∧ HdTab w R cs ∧ GoodH cs ∧ Below w.heap.size w wr
set_option maxHeartbeats 4000000 in
set_option maxRecDepth 100000 in
theorem few26_any (A : Option Addr) (cap : Nat) (l : List Hd) (w : World) (hs : Sl w A (rc Hd.cells l)) (hd : ∀ g ∈ l, InH w g) :
    Calls Try.prog 56 #[.slice A l.length cap] w fun e w' => FewH w' e ∧ Below w.heap.size w w' := by
  go_enter Try.func56, Try.ntmps56
  go_wp2_with fail
  go_loopw [3, 4] (fun out i wr => FRel26 l.length w out i wr) (fun _ i _ => l.length - (intOf i).toNat)
  case atStart => exact ⟨0, [], [], none, 0, by omega, by omega, rfl, rfl, by simp, own_nil _ _ _, HdTab.nil _, ⟨(fun g h => by cases h), (fun g h => by cases h)⟩, Below.refl _ _⟩
  case round =>
    obtain ⟨k, R, cs, A', c', hk, hk10, rfl, rfl, hRk, hown, htb, hgd, hB⟩ := hrel
    by_cases hgo : k < l.length ∧ k < 10
    · obtain ⟨hlt, hlt10⟩ := hgo
      obtain ⟨b, o, rfl, hbw, hg⟩ := hs.hd hlt
      obtain ⟨L, e1, e2, e3, e4, e5⟩ := hd l[k] (List.getElem_mem hlt)
      have hlk : (k : Int) < (l.length : Int) := by omega
      have hlk10 : (k : Int) < 10 := by omega
      have hge : (0 : Int) ≤ (k : Int) := by omega
      have HG : Hid (∀ V, Below w.heap.size w V → l[k].at V b (o + k * 3)) := Lib.hid fun V hV => Hd.at_keep hg fun i => hV.cell (p := ⟨b, i, none⟩) hbw
      clear hg
      generalize l[k] = v at *
      obtain ⟨va, vc, vt, vL, vC⟩ := v
      simp only at e1 e2 e3 e4
      subst e1
      unfold Hd.at at HG
      simp only at HG
      have HFW := Lib.hid (fun V h => few18_any vt vC L V e2 e3 h)
      have HSG : Hid (∀ V, Below w.heap.size w V → Sl V vt (rc Lt.cells L)) := Lib.hid fun V hV => e4.below hV
      have hT : Sl w vt (rc Lt.cells (L.take 20)) := by
        have h := e4.take (20 * 3)
        rw [rc_take Lt.len] at h
        exact h
      have ht20 : (L.take 20).length ≤ 20 := by simp; omega
      have hq20 : ∀ y ∈ L.take 20, In64 y.qty := fun y hy => e5 y (List.mem_of_mem_take hy)
      have HTN : Hid (HdTab w (R ++ [⟨va, vc, vt, (L.take 20).length, vC⟩]) (cs ++ [⟨va, vc, L.take 20⟩])) := Lib.hid (htb.app ⟨rfl, rfl, rfl, hT⟩)
      have HGN : Hid (GoodH (cs ++ [⟨va, vc, L.take 20⟩])) := Lib.hid ⟨fun g hg => by
        rcases List.mem_append.1 hg with hg | hg
        · exact hgd.1 g hg
        · rw [List.mem_singleton.1 hg]; exact ht20, fun g hg => by
        rcases List.mem_append.1 hg with hg | hg
        · exact hgd.2 g hg
        · rw [List.mem_singleton.1 hg]; exact hq20⟩
      clear hd hs e2 e3 e4 e5 hT ht20 hq20 htb hgd
      generalize L.take 20 = M at *
      go_wp2_with fail
      refine wp_region_held_drew (S := (fun V => Below w.heap.size w V)) (by kernel_rfl) (by exact hB.drew) (fun hHeld => ?_)
      refine wpAnyH_take (i := 0) (oi := { dst := some 15, op := _, type := _, pos := _, after := _, guard := _ }) (v := ?_) rfl (by kernel_rfl) (by kernel_rfl) (by kernel_rfl) (fun _ _ _ h => h) (Or.inl ⟨by rfl, ?_⟩) hHeld ?_
      rotate_left
      · (intro w hSw; obtain ⟨g0, g1, g2⟩ := HG.out _ hSw; go_simp <;> with_reducible rfl)
      try simp only [Act.put, List.setIfInBounds_toArray, List.set_cons_zero, List.set_cons_succ]
      refine wpAnyH_take (i := 1) (oi := { dst := some 16, op := _, type := _, pos := _, after := _, guard := _ }) (v := ?_) rfl (by kernel_rfl) (by kernel_rfl) (by kernel_rfl) (fun _ _ _ h => h) (Or.inl ⟨by rfl, ?_⟩) hHeld ?_
      rotate_left
      · (intro w hSw; obtain ⟨g0, g1, g2⟩ := HG.out _ hSw; go_simp <;> with_reducible rfl)
      try simp only [Act.put, List.setIfInBounds_toArray, List.set_cons_zero, List.set_cons_succ]
      refine wpAnyH_take (i := 2) (oi := { dst := some 17, op := _, type := _, pos := _, after := _, guard := _ }) (v := ?_) rfl (by kernel_rfl) (by kernel_rfl) (by kernel_rfl) (fun _ _ _ h => h) (Or.inl ⟨by rfl, ?_⟩) hHeld ?_
      rotate_left
      · (intro w hSw; obtain ⟨g0, g1, g2⟩ := HG.out _ hSw; go_simp <;> with_reducible rfl)
      try simp only [Act.put, List.setIfInBounds_toArray, List.set_cons_zero, List.set_cons_succ]
      refine wpAnyH_take (i := 3) (oi := { dst := some 18, op := _, type := _, pos := _, after := _, guard := _ }) (v := ?_) rfl (by kernel_rfl) (by kernel_rfl) (by kernel_rfl) (fun _ _ _ h => h) (Or.inl ⟨by rfl, ?_⟩) hHeld ?_
      rotate_left
      · (intro w hSw; obtain ⟨g0, g1, g2⟩ := HG.out _ hSw; go_simp <;> with_reducible rfl)
      try simp only [Act.put, List.setIfInBounds_toArray, List.set_cons_zero, List.set_cons_succ]
      refine wpAnyH_take (i := 4) (oi := { dst := some 19, op := _, type := _, pos := _, after := _, guard := _ }) (v := ?_) rfl (by kernel_rfl) (by kernel_rfl) (by kernel_rfl) (fun _ _ _ h => h) (Or.inl ⟨by rfl, ?_⟩) hHeld ?_
      rotate_left
      · (intro w hSw; obtain ⟨g0, g1, g2⟩ := HG.out _ hSw; go_simp <;> with_reducible rfl)
      try simp only [Act.put, List.setIfInBounds_toArray, List.set_cons_zero, List.set_cons_succ]
      refine wpAnyH_take (i := 5) (oi := { dst := some 20, op := _, type := _, pos := _, after := _, guard := _ }) (v := ?_) rfl (by kernel_rfl) (by kernel_rfl) (by kernel_rfl) (fun _ _ _ h => h) (Or.inl ⟨by rfl, ?_⟩) hHeld ?_
      rotate_left
      · (intro w hSw; obtain ⟨g0, g1, g2⟩ := HG.out _ hSw; go_simp <;> with_reducible rfl)
      try simp only [Act.put, List.setIfInBounds_toArray, List.set_cons_zero, List.set_cons_succ]
      refine wpAnyH_take (i := 6) (oi := { dst := some 21, op := _, type := _, pos := _, after := _, guard := _ }) (v := ?_) rfl (by kernel_rfl) (by kernel_rfl) (by kernel_rfl) (fun _ _ _ h => h) (Or.inl ⟨by rfl, ?_⟩) hHeld ?_
      rotate_left
      · (intro w hSw; obtain ⟨g0, g1, g2⟩ := HG.out _ hSw; go_simp <;> with_reducible rfl)
      try simp only [Act.put, List.setIfInBounds_toArray, List.set_cons_zero, List.set_cons_succ]
      refine wpAnyH_take (i := 7) (oi := { dst := some 22, op := _, type := _, pos := _, after := _, guard := _ }) (v := ?_) rfl (by kernel_rfl) (by kernel_rfl) (by kernel_rfl) (fun _ _ _ h => h) (Or.inl ⟨by rfl, ?_⟩) hHeld ?_
      rotate_left
      · (intro w hSw; obtain ⟨g0, g1, g2⟩ := HG.out _ hSw; go_simp <;> with_reducible rfl)
      try simp only [Act.put, List.setIfInBounds_toArray, List.set_cons_zero, List.set_cons_succ]
      refine wpAnyH_take (i := 8) (oi := { dst := some 23, op := _, type := _, pos := _, after := _, guard := _ }) (v := ?_) rfl (by kernel_rfl) (by kernel_rfl) (by kernel_rfl) (fun _ _ _ h => h) (Or.inl ⟨by rfl, ?_⟩) hHeld ?_
      rotate_left
      · (intro w hSw; obtain ⟨g0, g1, g2⟩ := HG.out _ hSw; go_simp <;> with_reducible rfl)
      try simp only [Act.put, List.setIfInBounds_toArray, List.set_cons_zero, List.set_cons_succ]
      refine wpAnyH_take (i := 9) (oi := { dst := some 24, op := _, type := _, pos := _, after := _, guard := _ }) (v := ?_) rfl (by kernel_rfl) (by kernel_rfl) (by kernel_rfl) (fun _ _ _ h => h) (Or.inl ⟨by rfl, ?_⟩) hHeld ?_
      rotate_left
      · (intro w hSw; obtain ⟨g0, g1, g2⟩ := HG.out _ hSw; go_simp <;> with_reducible rfl)
      try simp only [Act.put, List.setIfInBounds_toArray, List.set_cons_zero, List.set_cons_succ]
      refine wpAnyH_take (i := 10) (oi := { dst := some 25, op := _, type := _, pos := _, after := _, guard := _ }) (v := ?_) rfl (by kernel_rfl) (by kernel_rfl) (by kernel_rfl) (fun _ _ _ h => h) (Or.inl ⟨by rfl, ?_⟩) hHeld ?_
      rotate_left
      · (intro w hSw; obtain ⟨g0, g1, g2⟩ := HG.out _ hSw; go_simp <;> with_reducible rfl)
      try simp only [Act.put, List.setIfInBounds_toArray, List.set_cons_zero, List.set_cons_succ]
      refine wpAnyH_ready (rs := [11]) (by kernel_rfl) (by simp) ?_
      refine AllReadyH.cons (o := { dst := some 26, op := _, type := _, pos := _, after := _, guard := _ }) rfl (fun K hK => ?_) AllReadyH.nil
      go_simp
      refine (HFW.out _ (HSG.out _ hHeld)).mono ?_
      rintro e u1 ⟨rfl, hk1⟩
      have hKeep := since_step hHeld hk1
      have ho1 := own_below (own_below hown ((Below.refl _ _).drew)) hk1
      go_wp2_with fail
      refine hK.out _ _ (by (try dsimp only); exact hKeep) (fun hHeld => ?_)
      clear hK K hKeep
      try simp only [Act.put, List.setIfInBounds_toArray, List.set_cons_zero, List.set_cons_succ]
      refine wpAnyH_take (i := 12) (oi := { dst := some 27, op := _, type := _, pos := _, after := _, guard := _ }) (v := ?_) rfl (by kernel_rfl) (by kernel_rfl) (by kernel_rfl) (fun _ _ _ h => h) (Or.inl ⟨by rfl, ?_⟩) hHeld ?_
      rotate_left
      · (intro w hSw; obtain ⟨g0, g1, g2⟩ := HG.out _ hSw; go_simp <;> with_reducible rfl)
      try simp only [Act.put, List.setIfInBounds_toArray, List.set_cons_zero, List.set_cons_succ]
      refine wpAnyH_ready (rs := [13]) (by kernel_rfl) (by simp) ?_
      refine AllReadyH.cons (o := { dst := some 28, op := _, type := _, pos := _, after := _, guard := _ }) rfl (fun K hK => ?_) AllReadyH.nil
      have hHd := hHeld
      obtain ⟨g0, g1, g2⟩ := HG.out _ hHd
      have hKeep := since_alloc hHd (.cells (⟨va, vc, vt, M.length, vC⟩ : Hd).cells.toArray 169)
      have HU := Hd.Bx.new u1 ⟨va, vc, vt, M.length, vC⟩
      have hown1 := World.ownsRow.alloc (w := u1) ho1 (.cells (⟨va, vc, vt, M.length, vC⟩ : Hd).cells.toArray 169)
      skip
      go_simp
      refine hK.out _ _ (by (try dsimp only); exact hKeep) (fun hHeld => ?_)
      clear hK K hKeep
      try simp only [Act.put, List.setIfInBounds_toArray, List.set_cons_zero, List.set_cons_succ]
      refine wpAnyH_ready (rs := [14]) (by kernel_rfl) (by simp) ?_
      refine AllReadyH.cons (o := { dst := some 29, op := _, type := _, pos := _, after := _, guard := _ }) rfl (fun K hK => ?_) AllReadyH.nil
      refine step_app rfl (.tmp 15) (.tmp 28) rfl EHd (n := R.length) (m := 1) (c := c') (d := 1) (A := A') (B := some ⟨u1.heap.size, 0, none⟩) (by simp [Act.eval, Act.put]; done) (by simp [Act.eval, Act.put]; done) hown1 (by rw [Hd.len]) HU.sl (Hd.one _) (by unfold maxLen; omega) (by omega) hHeld.size ?_
      intro A2 c2 u2 hown2 hg2 hb2
      have hKeep := hHeld.trans hb2
      refine hK.out _ _ (by (try dsimp only); exact hKeep) (fun hHeld => ?_)
      clear hK K hKeep
      try simp only [Act.put, List.setIfInBounds_toArray, List.set_cons_zero, List.set_cons_succ]
      refine wpAnyH_take (i := 15) (oi := { dst := some 3, op := _, type := _, pos := _, after := _, guard := _ }) (v := ?_) rfl (by kernel_rfl) (by kernel_rfl) (by kernel_rfl) (fun _ _ _ h => h) (Or.inl ⟨by rfl, ?_⟩) hHeld ?_
      rotate_left
      · (intro w hSw; obtain ⟨g0, g1, g2⟩ := HG.out _ hSw; go_simp <;> with_reducible rfl)
      try simp only [Act.put, List.setIfInBounds_toArray, List.set_cons_zero, List.set_cons_succ]
      refine wpAnyH_done (by kernel_rfl) ?_ _
      have hB2 := hHeld
      go_wp2_with fail
      go_roundw
      case rel =>
        refine ⟨k + 1, R ++ [⟨va, vc, vt, M.length, vC⟩], cs ++ [⟨va, vc, M⟩], A2, c2, by omega, by omega, by go_num, by simp, by simp; omega, ?_, HTN.out, HGN.out, hB2⟩
        rw [rc_append]; simpa [rc] using hown2
      case measure => simp [intOf]; omega
    · have hend : ¬ ((k : Int) < (l.length : Int)) ∨ ((k : Int) < (l.length : Int) ∧ ¬ ((k : Int) < 10)) := by omega
      clear hgo
      rcases hend with h1 | ⟨h1, h2⟩
      all_goals
        go_wp2_with fail
        go_ret
        exact ⟨⟨R, cs, A', c', rfl, Sl.of_own hown, htb.below hB, CapH.of_own hown, by omega, hgd⟩, hB⟩
end Go.Proofs.Ytldnponbkhgijaa
end
section
namespace Go.Proofs.Ytldnponbkhgijaa
open Go.ChangeShapes Go.WideShapes Go.ChangeAt Go.RowKit
set_option linter.unusedVariables false
set_option linter.unusedSimpArgs false

theorem InH.below {w w' : World} {g : Hd} (h : InH w g) (hb : Below w.heap.size w w') : InH w' g := by
  obtain ⟨L, h1, h2, h3, h4, h5⟩ := h
  exact ⟨L, h1, h2, h3, h4.below hb, h5⟩
theorem rd_lt3 {w : World} {a : Array Value} (h : Rd w (.cat (.int .i64) (.cat (.int .i64) (.cat (.int .i64) .nil))) a.toList) : ∃ x y z : Int, a = #[.int .i64 x, .int .i64 y, .int .i64 z] ∧ In64 z := by
  obtain ⟨p, q, e, ⟨x, rfl, _⟩, ⟨p2, q2, rfl, ⟨y, rfl, _⟩, ⟨p3, q3, rfl, ⟨z, rfl, wz⟩, rfl⟩⟩⟩ := h
  refine ⟨x, y, z, ?_, bd_i64 wz⟩
  cases a
  simpa using e
theorem live26a : chgHR (fun m => putLR m ⟨1, 0, 5⟩) [] 1 0 = (0, [⟨1, 0, [⟨1, 0, 5⟩]⟩]) := by
  rw [chgHR_ok (L := [⟨1, 0, 5⟩]) rfl (put_can rfl (by decide) (by show In64 (0 + 5); unfold In64; omega) (by simp; try decide))]
  rfl
theorem live26b : moveHR [⟨1, 0, [⟨1, 0, 5⟩]⟩] 1 0 2 0 = (0, [⟨2, 0, [⟨1, 0, 5⟩]⟩]) := by decide
set_option maxHeartbeats 4000000 in
set_option maxRecDepth 100000 in
theorem lives26_any (w : World) : Calls Try.prog 72 #[] w fun e w' => e = .returned (.bool true) ∧ Below w.heap.size w w' := by
  have HP := Lib.hid (fun V => hput_any none 0 [] [] 1 0 1 0 5 V (by simp) (fun g h => by cases h) (by unfold In64; omega) (fun g h => by cases h) Sl.nil (HdTab.nil V))
  have HM := Lib.hid (fun A c l V hl h1 h2 => hmove_any A c l [⟨1, 0, [⟨1, 0, 5⟩]⟩] 1 0 2 0 V hl (by simp) h1 h2)
  have HL1 := Lib.hid (fun A c l V hl h1 h2 => hlots_any A c l [⟨2, 0, [⟨1, 0, 5⟩]⟩] 2 0 V hl (by simp) h1 h2)
  have HL2 := Lib.hid (fun A c l V hl h1 h2 => hlots_any A c l [⟨2, 0, [⟨1, 0, 5⟩]⟩] 1 0 V hl (by simp) h1 h2)
  rw [show lotsH [⟨2, 0, [⟨1, 0, 5⟩]⟩] 2 0 = [⟨1, 0, 5⟩] from rfl] at HL1
  rw [show lotsH [⟨2, 0, [⟨1, 0, 5⟩]⟩] 1 0 = [] from rfl] at HL2
  rw [live26a] at HP
  rw [live26b] at HM
  have HSA := Lib.hid (fun A c A2 W h1 h2 => rlsame_any_self A A2 c 1 [⟨1, 0, 5⟩] W (by decide) h1 h2)
  unfold HRes at HP HM
  simp only [List.length_cons, List.length_nil] at HP HL1 HL2 HSA
  have hB0 := since_alloc (since_alloc (Below.refl _ w) (.cells #[.int .i64 1, .int .i64 0] 24)) (.cells #[.int .i64 2, .int .i64 0] 24)
  have hK1 := (Bk.new w #[.int .i64 1, .int .i64 0] 24).alloc (.cells #[.int .i64 2, .int .i64 0] 24)
  have hK2 := Bk.new (w.alloc (.cells #[.int .i64 1, .int .i64 0] 24)) #[.int .i64 2, .int .i64 0] 24
  rw [World.size_alloc] at hK2
  go_enter Try.func72, Try.ntmps72
  go_wp2_with fail
  refine (HP.out _).mono ?_
  rintro e w1 ⟨⟨l1, A1, c1, rfl, s1, t1, _⟩, hb⟩
  have hB1 := since_step hB0 hb
  have hK1 := hK1.below hb
  have hK2 := hK2.below hb
  have hl1 : l1.length ≤ 800000 := by rw [t1.1]; simp
  have HM2 := Lib.hid (HM.out A1 c1 l1 w1 hl1 s1 t1)
  have ck := hK1.2; have p0 := ck 0; have p1 := ck 1; simp at p0 p1; clear ck
  have ck := hK2.2; have p2 := ck 0; have p3 := ck 1; simp at p2 p3; clear ck
  clear hb s1 t1 hl1
  go_wp2_with fail
  refine HM2.out.mono ?_
  rintro e w2 ⟨⟨l2, A2, c2, rfl, s2, t2, _⟩, hb⟩
  have hB2 := since_step hB1 hb
  have hK1 := hK1.below hb
  have hK2 := hK2.below hb
  have hl2 : l2.length ≤ 900000 := by rw [t2.1]; simp
  have HQ := Lib.hid (And.intro hl2 (And.intro s2 t2))
  have ck := hK1.2; have p0 := ck 0; have p1 := ck 1; simp at p0 p1; clear ck
  have ck := hK2.2; have p2 := ck 0; have p3 := ck 1; simp at p2 p3; clear ck
  clear hb s2 t2 hl2
  go_wp2_with fail
  refine (HL1.out A2 c2 l2 _ HQ.out.1 HQ.out.2.1 HQ.out.2.2).mono ?_
  rintro e w3 ⟨⟨A3, c3, rfl, o3⟩, hb⟩
  have hB3 := since_step hB2 hb
  have hK1 := hK1.below hb
  have HQ := Lib.hid (And.intro HQ.out.1 (And.intro (HQ.out.2.1.below hb) (HQ.out.2.2.below hb)))
  have s3 := Sl.of_own o3
  clear hb hK2 o3
  go_wp2_with fail
  refine (HSA.out _ _ _ _ (s3.alloc _) (Sl.new_ w3 (rc Lt.cells [⟨1, 0, 5⟩]) 93)).mono ?_
  rintro e w4 ⟨rfl, hb⟩
  have hb' := since_step (since_alloc (Below.refl _ w3) (.cells #[.int .i64 1, .int .i64 0, .int .i64 5] 93)) hb
  have hB4 := since_step hB3 hb'
  have hK1 := hK1.below hb'
  have HQ := Lib.hid (And.intro HQ.out.1 (And.intro (HQ.out.2.1.below hb') (HQ.out.2.2.below hb')))
  have ck := hK1.2; have p0 := ck 0; have p1 := ck 1; simp at p0 p1; clear ck
  clear hb hb' s3
  go_wp2_with fail
  refine (HL2.out A2 c2 l2 _ HQ.out.1 HQ.out.2.1 HQ.out.2.2).mono ?_
  rintro e w5 ⟨⟨A5, c5, rfl, o5⟩, hb⟩
  have hB5 := since_step hB4 hb
  go_wp2_with fail
  go_ret
  exact ⟨rfl, hB5⟩
set_option maxHeartbeats 16000000 in
set_option maxRecDepth 100000 in
theorem walk_HoldMoves (a0 : Option Addr) (n0 c0 : Nat) (a1 : Array Value) (a2 : Array Value) (a3 : Array Value) (a4 : Int) (w : World) (w0 : Rd w (.sl (.cat (.cat (.int .i64) (.cat (.int .i64) .nil)) (.cat (.sl (.cat (.int .i64) (.cat (.int .i64) (.cat (.int .i64) .nil)))) .nil))) [.slice a0 n0 c0]) (w1 : Rd w (.cat (.int .i64) (.cat (.int .i64) .nil)) a1.toList) (w2 : Rd w (.cat (.int .i64) (.cat (.int .i64) .nil)) a2.toList) (w3 : Rd w (.cat (.int .i64) (.cat (.int .i64) (.cat (.int .i64) .nil))) a3.toList) (w4 : (Lit.int .i64 a4).wf = true) :
    Calls Try.prog 12 #[.slice a0 n0 c0, .agg a1, .agg a2, .agg a3, .int .i64 a4] w fun e w' => e = .returned (.bool true) ∧ Below w.heap.size w w' := by
  obtain ⟨l, rfl, _, _, hs, hd⟩ := rd_rowsP (f := Hd.cells) (fun r => rd_hold) w0
  obtain ⟨fa, fc, rfl⟩ := rd_two w1
  obtain ⟨ta, tc, rfl⟩ := rd_two w2
  obtain ⟨xa, xt, xq, rfl, hx⟩ := rd_lt3 w3
  clear w0 w1 w2 w3 w4
  have hB := since_alloc (since_alloc (since_alloc (Below.refl _ w) (.cells #[.int .i64 fa, .int .i64 fc] 24)) (.cells #[.int .i64 ta, .int .i64 tc] 24)) (.cells #[.int .i64 xa, .int .i64 xt, .int .i64 xq] 93)
  have hK1 := ((Bk.new w #[.int .i64 fa, .int .i64 fc] 24).alloc (.cells #[.int .i64 ta, .int .i64 tc] 24)).alloc (.cells #[.int .i64 xa, .int .i64 xt, .int .i64 xq] 93)
  have hK2 := (Bk.new (w.alloc (.cells #[.int .i64 fa, .int .i64 fc] 24)) #[.int .i64 ta, .int .i64 tc] 24).alloc (.cells #[.int .i64 xa, .int .i64 xt, .int .i64 xq] 93)
  have hK3 := Bk.new ((w.alloc (.cells #[.int .i64 fa, .int .i64 fc] 24)).alloc (.cells #[.int .i64 ta, .int .i64 tc] 24)) #[.int .i64 xa, .int .i64 xt, .int .i64 xq] 93
  rw [World.size_alloc] at hK2
  rw [World.size_alloc, World.size_alloc] at hK3
  have HF1 := Lib.hid (few26_any a0 c0 l _ (hs.below hB) (fun g hg => (hd g hg).below hB))
  have HLV := Lib.hid (fun V => lives26_any V)
  clear hs hd
  go_enter Try.func12, Try.ntmps12
  go_upto_region 1 with fail
  generalize hWW : ((w.alloc (.cells #[.int .i64 fa, .int .i64 fc] 24)).alloc (.cells #[.int .i64 ta, .int .i64 tc] 24)).alloc (.cells #[.int .i64 xa, .int .i64 xt, .int .i64 xq] 93) = W at *
  clear hWW
  obtain ⟨hK1_l, hK1_c⟩ := id hK1
  have hK1_0 := hK1_c 0
  have hK1_1 := hK1_c 1
  simp at hK1_0 hK1_1
  clear hK1_c
  obtain ⟨hK2_l, hK2_c⟩ := id hK2
  have hK2_0 := hK2_c 0
  have hK2_1 := hK2_c 1
  simp at hK2_0 hK2_1
  clear hK2_c
  obtain ⟨hK3_l, hK3_c⟩ := id hK3
  have hK3_0 := hK3_c 0
  have hK3_1 := hK3_c 1
  have hK3_2 := hK3_c 2
  simp at hK3_0 hK3_1 hK3_2
  clear hK3_c
  go_wp2_with fail
  refine (HF1.out).mono ?_
  rintro e z1 ⟨⟨R, cs, A, c, rfl, hs, ht, hcap, hR, hgd⟩, hb⟩
  have hB := since_step hB hb
  have hK1 := hK1.below hb
  have hK2 := hK2.below hb
  have hK3 := hK3.below hb
  clear hb
  clear hK1_l hK1_0 hK1_1 hK2_l hK2_0 hK2_1 hK3_l hK3_0 hK3_1 hK3_2
  have hRc := ht.1
  have HM1 := Lib.hid (fun V h1 h2 => hmove_any A c R cs fa fc ta tc V (by omega) (fun g hg => Nat.le_trans (hgd.1 g hg) (by omega)) h1 h2)
  have HM2 := Lib.hid (fun V h1 h2 => rhmove_any A c R cs fa fc ta tc V (by omega) (fun g hg => Nat.le_trans (hgd.1 g hg) (by omega)) hcap h1 h2)
  have HP1 := Lib.hid (fun V h1 h2 => hpass_any A c R cs fa fc ta tc xa xt xq a4 V (by omega) (fun g hg => Nat.le_trans (hgd.1 g hg) (by omega)) hx hgd.2 h1 h2)
  have HP2 := Lib.hid (fun V h1 h2 => rhpass_any A c R cs fa fc ta tc xa xt xq a4 V (by omega) (fun g hg => Nat.le_trans (hgd.1 g hg) (by omega)) hx hgd.2 hcap h1 h2)
  have hmb := move_bd hgd.1 fa fc ta tc
  have hpb := pass_bd hgd.1 fa fc ta tc ⟨xa, xt, xq⟩ a4
  obtain ⟨mn, ML, hM⟩ : ∃ n L, moveHR cs fa fc ta tc = (n, L) := ⟨_, _, rfl⟩
  obtain ⟨pn, PL, hP⟩ : ∃ n L, passHR cs fa fc ta tc ⟨xa, xt, xq⟩ a4 = (n, L) := ⟨_, _, rfl⟩
  rw [hM] at HM1 HM2 hmb
  rw [hP] at HP1 HP2 hpb
  simp only at hmb hpb
  have HS1 := Lib.hid (fun A1 c1 l1 A2 c2 l2 V h1 t1 h2 t2 => rhsame_self A1 c1 l1 A2 c2 l2 ML V (by have := (show HdTab V l1 ML from t1).1; omega) (fun g hg => Nat.le_trans (hmb.2 g hg) (by omega)) h1 t1 h2 t2)
  have HS2 := Lib.hid (fun A1 c1 l1 A2 c2 l2 V h1 t1 h2 t2 => rhsame_self A1 c1 l1 A2 c2 l2 PL V (by have := (show HdTab V l1 PL from t1).1; omega) (fun g hg => Nat.le_trans (hpb.2 g hg) (by omega)) h1 t1 h2 t2)
  unfold HRes at HM1 HM2 HP1 HP2
  simp only at HM1 HM2 HP1 HP2
  have hmn : (mn == mn) = true := by simp
  have hpn : (pn == pn) = true := by simp
  have HT := Lib.hid (And.intro hs ht)
  clear hs ht hcap hR hgd hRc hmb hpb hM hP hx
  obtain ⟨hK1_l, hK1_c⟩ := id hK1
  have hK1_0 := hK1_c 0
  have hK1_1 := hK1_c 1
  simp at hK1_0 hK1_1
  clear hK1_c
  obtain ⟨hK2_l, hK2_c⟩ := id hK2
  have hK2_0 := hK2_c 0
  have hK2_1 := hK2_c 1
  simp at hK2_0 hK2_1
  clear hK2_c
  obtain ⟨hK3_l, hK3_c⟩ := id hK3
  have hK3_0 := hK3_c 0
  have hK3_1 := hK3_c 1
  have hK3_2 := hK3_c 2
  simp at hK3_0 hK3_1 hK3_2
  clear hK3_c
  go_wp2_with fail
  refine (HM1.out _ HT.out.1 HT.out.2).mono ?_
  rintro e z2 ⟨⟨l1, A1, c1, rfl, hsN, htN, _⟩, hb⟩
  have hB := since_step hB hb
  have hK1 := hK1.below hb
  have hK2 := hK2.below hb
  have hK3 := hK3.below hb
  have HT := Lib.hid (And.intro (HT.out.1.below hb) (HT.out.2.below hb))
  clear hb
  clear hK1_l hK1_0 hK1_1 hK2_l hK2_0 hK2_1 hK3_l hK3_0 hK3_1 hK3_2
  have HR1 := Lib.hid (And.intro hsN htN)
  clear hsN htN
  obtain ⟨hK1_l, hK1_c⟩ := id hK1
  have hK1_0 := hK1_c 0
  have hK1_1 := hK1_c 1
  simp at hK1_0 hK1_1
  clear hK1_c
  obtain ⟨hK2_l, hK2_c⟩ := id hK2
  have hK2_0 := hK2_c 0
  have hK2_1 := hK2_c 1
  simp at hK2_0 hK2_1
  clear hK2_c
  obtain ⟨hK3_l, hK3_c⟩ := id hK3
  have hK3_0 := hK3_c 0
  have hK3_1 := hK3_c 1
  have hK3_2 := hK3_c 2
  simp at hK3_0 hK3_1 hK3_2
  clear hK3_c
  go_wp2_with fail
  refine (HM2.out _ HT.out.1 HT.out.2).mono ?_
  rintro e z3 ⟨⟨l2, A2, c2, rfl, hsN, htN, _⟩, hb⟩
  have hB := since_step hB hb
  have hK1 := hK1.below hb
  have hK2 := hK2.below hb
  have hK3 := hK3.below hb
  have HT := Lib.hid (And.intro (HT.out.1.below hb) (HT.out.2.below hb))
  have HR1 := Lib.hid (And.intro (HR1.out.1.below hb) (HR1.out.2.below hb))
  clear hb
  clear hK1_l hK1_0 hK1_1 hK2_l hK2_0 hK2_1 hK3_l hK3_0 hK3_1 hK3_2
  have HR2 := Lib.hid (And.intro hsN htN)
  clear hsN htN
  obtain ⟨hK1_l, hK1_c⟩ := id hK1
  have hK1_0 := hK1_c 0
  have hK1_1 := hK1_c 1
  simp at hK1_0 hK1_1
  clear hK1_c
  obtain ⟨hK2_l, hK2_c⟩ := id hK2
  have hK2_0 := hK2_c 0
  have hK2_1 := hK2_c 1
  simp at hK2_0 hK2_1
  clear hK2_c
  obtain ⟨hK3_l, hK3_c⟩ := id hK3
  have hK3_0 := hK3_c 0
  have hK3_1 := hK3_c 1
  have hK3_2 := hK3_c 2
  simp at hK3_0 hK3_1 hK3_2
  clear hK3_c
  go_wp2_with fail
  refine (HP1.out _ HT.out.1 HT.out.2).mono ?_
  rintro e z4 ⟨⟨l3, A3, c3, rfl, hsN, htN, _⟩, hb⟩
  have hB := since_step hB hb
  have hK1 := hK1.below hb
  have hK2 := hK2.below hb
  have hK3 := hK3.below hb
  have HT := Lib.hid (And.intro (HT.out.1.below hb) (HT.out.2.below hb))
  have HR1 := Lib.hid (And.intro (HR1.out.1.below hb) (HR1.out.2.below hb))
  have HR2 := Lib.hid (And.intro (HR2.out.1.below hb) (HR2.out.2.below hb))
  clear hb
  clear hK1_l hK1_0 hK1_1 hK2_l hK2_0 hK2_1 hK3_l hK3_0 hK3_1 hK3_2
  have HR3 := Lib.hid (And.intro hsN htN)
  clear hsN htN
  obtain ⟨hK1_l, hK1_c⟩ := id hK1
  have hK1_0 := hK1_c 0
  have hK1_1 := hK1_c 1
  simp at hK1_0 hK1_1
  clear hK1_c
  obtain ⟨hK2_l, hK2_c⟩ := id hK2
  have hK2_0 := hK2_c 0
  have hK2_1 := hK2_c 1
  simp at hK2_0 hK2_1
  clear hK2_c
  obtain ⟨hK3_l, hK3_c⟩ := id hK3
  have hK3_0 := hK3_c 0
  have hK3_1 := hK3_c 1
  have hK3_2 := hK3_c 2
  simp at hK3_0 hK3_1 hK3_2
  clear hK3_c
  go_wp2_with fail
  refine (HP2.out _ HT.out.1 HT.out.2).mono ?_
  rintro e z5 ⟨⟨l4, A4, c4, rfl, hsN, htN, _⟩, hb⟩
  have hB := since_step hB hb
  have hK1 := hK1.below hb
  have hK2 := hK2.below hb
  have hK3 := hK3.below hb
  have HT := Lib.hid (And.intro (HT.out.1.below hb) (HT.out.2.below hb))
  have HR1 := Lib.hid (And.intro (HR1.out.1.below hb) (HR1.out.2.below hb))
  have HR2 := Lib.hid (And.intro (HR2.out.1.below hb) (HR2.out.2.below hb))
  have HR3 := Lib.hid (And.intro (HR3.out.1.below hb) (HR3.out.2.below hb))
  clear hb
  clear hK1_l hK1_0 hK1_1 hK2_l hK2_0 hK2_1 hK3_l hK3_0 hK3_1 hK3_2
  have HR4 := Lib.hid (And.intro hsN htN)
  clear hsN htN
  clear hK1 hK2 hK3 HT
  go_wp2_with fail
  refine (HS1.out _ _ _ _ _ _ _ HR1.out.1 HR1.out.2 HR2.out.1 HR2.out.2).mono ?_
  rintro e z6 ⟨rfl, hb⟩
  have hB := since_step hB hb
  have HR1 := Lib.hid (And.intro (HR1.out.1.below hb) (HR1.out.2.below hb))
  have HR2 := Lib.hid (And.intro (HR2.out.1.below hb) (HR2.out.2.below hb))
  have HR3 := Lib.hid (And.intro (HR3.out.1.below hb) (HR3.out.2.below hb))
  have HR4 := Lib.hid (And.intro (HR4.out.1.below hb) (HR4.out.2.below hb))
  clear hb
  clear HR1 HR2
  go_wp2_with fail
  refine (HS2.out _ _ _ _ _ _ _ HR3.out.1 HR3.out.2 HR4.out.1 HR4.out.2).mono ?_
  rintro e z7 ⟨rfl, hb⟩
  have hB := since_step hB hb
  have HR3 := Lib.hid (And.intro (HR3.out.1.below hb) (HR3.out.2.below hb))
  have HR4 := Lib.hid (And.intro (HR4.out.1.below hb) (HR4.out.2.below hb))
  clear hb
  clear HR3 HR4
  go_wp2_with fail
  refine (HLV.out _).mono ?_
  rintro e z8 ⟨rfl, hb⟩
  have hB := since_step hB hb
  clear hb
  go_wp2_with fail
  go_ret
  exact ⟨rfl, hB⟩
end Go.Proofs.Ytldnponbkhgijaa
end
section
namespace Go.Proofs.Ytldnponbkhgijaa
open Go.ChangeShapes Go.WideShapes Go.ChangeAt Go.RowKit
set_option linter.unusedVariables false
set_option linter.unusedSimpArgs false

theorem sum64_bd {m : List Int} (h : All64 m) : -(m.length : Int) * 9223372036854775808 ≤ m.sum ∧ m.sum ≤ (m.length : Int) * 9223372036854775808 := by
  induction m with
  | nil => simp
  | cons a r ih =>
    have ha := h a (by simp)
    have ih := ih (fun x hx => h x (List.mem_cons_of_mem _ hx))
    unfold In64 at ha
    rw [List.sum_cons, List.length_cons]
    omega
theorem qsL_bd {l : List Lt} {a : Int} (hq : ∀ y ∈ l, In64 y.qty) (hl : l.length ≤ 900000) : -(8301034833169298227200000 : Int) ≤ (qsL l a).sum ∧ (qsL l a).sum ≤ 8301034833169298227200000 := by
  have h := sum64_bd (qsL_in hq a)
  have h2 := qsL_len l a
  omega
theorem qsL_128 {l : List Lt} {a : Int} (hq : ∀ y ∈ l, In64 y.qty) (hl : l.length ≤ 900000) : In128 (qsL l a).sum := by
  have h := qsL_bd (a := a) hq hl
  unfold In128; omega
theorem sums_len (cs : List Hc) (t : Int) : (sumsH cs t).length = cs.length := by simp [sumsH]
theorem sums_in {cs : List Hc} (h6 : ∀ g ∈ cs, ∀ y ∈ g.L, In64 y.qty) (hcl : ∀ g ∈ cs, g.L.length ≤ 900000) (t : Int) : ∀ x ∈ sumsH cs t, In128 x := by
  intro q hq
  obtain ⟨y, hy, rfl⟩ := List.mem_map.1 hq
  exact qsL_128 (h6 y hy) (hcl y hy)
theorem sums_snoc (cs : List Hc) (t : Int) (k : Nat) (h : k < cs.length) : sumsH (cs.take (k + 1)) t = sumsH (cs.take k) t ++ [(qsL cs[k].L t).sum] := by
  unfold sumsH
  rw [take_snoc cs k h, List.map_append]; rfl
theorem sums_sum (cs : List Hc) (t : Int) (k : Nat) (h : k < cs.length) : (sumsH (cs.take (k + 1)) t).sum = (sumsH (cs.take k) t).sum + (qsL cs[k].L t).sum := by
  rw [sums_snoc cs t k h]; simp
theorem sums_128 {cs : List Hc} (h6 : ∀ g ∈ cs, ∀ y ∈ g.L, In64 y.qty) (hcl : ∀ g ∈ cs, g.L.length ≤ 900000) (t : Int) (hl : cs.length ≤ 900000) : In128 (sumsH cs t).sum := by
  have key : ∀ ds : List Hc, (∀ g ∈ ds, ∀ y ∈ g.L, In64 y.qty) → (∀ g ∈ ds, g.L.length ≤ 900000) → -((ds.length : Int) * 8301034833169298227200000) ≤ (sumsH ds t).sum ∧ (sumsH ds t).sum ≤ (ds.length : Int) * 8301034833169298227200000 := by
    intro ds
    induction ds with
    | nil => intro _ _; simp [sumsH]
    | cons g r ih =>
      intro h1 h2
      have i := ih (fun x hx => h1 x (List.mem_cons_of_mem _ hx)) (fun x hx => h2 x (List.mem_cons_of_mem _ hx))
      have b := qsL_bd (a := t) (h1 g (by simp)) (h2 g (by simp))
      have e : (sumsH (g :: r) t).sum = (qsL g.L t).sum + (sumsH r t).sum := by simp [sumsH]
      rw [e, List.length_cons]
      omega
  have h := key cs h6 hcl
  unfold In128
  omega
theorem sums_take {cs : List Hc} (h6 : ∀ g ∈ cs, ∀ y ∈ g.L, In64 y.qty) (hcl : ∀ g ∈ cs, g.L.length ≤ 900000) (t : Int) (k : Nat) (hl : cs.length ≤ 900000) : In128 (sumsH (cs.take k) t).sum :=
  sums_128 (fun g hg => h6 g (List.mem_of_mem_take hg)) (fun g hg => hcl g (List.mem_of_mem_take hg)) t (by rw [List.length_take]; omega)
set_option maxHeartbeats 4000000 in
set_option maxRecDepth 100000 in
theorem htotal_any (A : Option Addr) (cap : Nat) (l : List Hd) (cs : List Hc) (a : Int) (w : World) (hl : l.length ≤ 900000) (hcl : ∀ g ∈ cs, g.L.length ≤ 900000) (h6 : ∀ g ∈ cs, ∀ y ∈ g.L, In64 y.qty) (hs : Sl w A (rc Hd.cells l)) (ht : HdTab w l cs) :
    Calls Try.prog 58 #[.slice A l.length cap, .int .i64 a] w fun e w' => e = .returned (.agg #[.int .i64 (hiN (sumsH cs a).sum), .int .u64 (loN (sumsH cs a).sum)]) ∧ Below w.heap.size w w' := by
  have HLC := Lib.hid ht.1
  have hlcs : cs.length ≤ 900000 := by have := HLC.out; omega
  have HQI := Lib.hid (sums_in h6 hcl a)
  have HQL := Lib.hid (sums_len cs a)
  have H6 := Lib.hid h6
  have HCL := Lib.hid hcl
  have H128 := Lib.hid (sums_128 h6 hcl a hlcs)
  have hB0 := since_alloc (Below.refl _ w) (.cells #[.int .i64 0, .int .u64 0] 28)
  have G0 := T2.new w 0 0 28
  have hs0 := hs.alloc (.cells #[.int .i64 0, .int .u64 0] 28)
  have ht0 := ht.below hB0
  clear hs h6 hcl ht
  go_enter Try.func58, Try.ntmps58
  go_upto_region 1 with fail
  generalize hWW : w.alloc (.cells #[.int .i64 0, .int .u64 0] 28) = W at *
  have ht0 : HdTab W l cs := ht0
  clear hWW
  have hWs := hB0.size
  go_wp2_with (first
    | (at_make; refine wpList_mk rfl (.const (.int .i64 0)) (.tmp 11) rfl EWd l.length rfl rfl rfl (by omega) (by unfold maxLen; omega) (Nat.le_refl _) ?_; intro W2 hownW hbW)
    | fail)
  go_loopw [5, 15] (fun out i wr => ∃ (k : Nat) (A' : Option Addr) (c' : Nat), k ≤ l.length ∧ i = .int .i64 k ∧ out = .slice A' (sumsH (cs.take k) a).length c' ∧ wr.ownsRow W.heap.size 28 2 (.slice A' (sumsH (cs.take k) a).length c') (sumsH (cs.take k) a).length (wcells (sumsH (cs.take k) a)) ∧ Below W.heap.size W wr) (fun _ i _ => l.length - (intOf i).toNat)
  case atStart => exact ⟨0, _, _, by omega, rfl, rfl, by simpa [sumsH, wcells] using hownW, hbW⟩
  case round =>
    obtain ⟨k, A', c', hk, rfl, rfl, hown, hB⟩ := hrel
    clear hownW hbW
    by_cases hlt : k < l.length
    · have hlc : k < cs.length := HLC.out ▸ hlt
      obtain ⟨b, o, rfl, hbw, hg⟩ := (hs0.below hB).hd hlt
      have hI := (ht0.below hB).2 k hlt hlc
      have hlk : (k : Int) < (l.length : Int) := by omega
      have hge : (0 : Int) ≤ (k : Int) := by omega
      have HN := Lib.hid (sums_snoc cs a k hlc)
      have hq6 := H6.out _ (List.getElem_mem hlc)
      have hm := HCL.out _ (List.getElem_mem hlc)
      have hrl : (sumsH (cs.take k) a).length ≤ k := by rw [sums_len, List.length_take]; omega
      generalize l[k] = v at *
      generalize cs[k] = d at *
      obtain ⟨va, vc, vt, vL, vC⟩ := v
      obtain ⟨da, dc, dL⟩ := d
      obtain ⟨i0, i1, i2, i3⟩ := hI
      simp only at i0 i1 i2 i3 hm hq6
      subst i0; subst i1; subst i2
      have HN := Lib.hid HN.out
      simp only at HN
      obtain ⟨g0, g1, g2⟩ := hg
      simp only at g0 g1 g2
      obtain ⟨R, hR⟩ : ∃ R, sumsH (cs.take k) a = R := ⟨_, rfl⟩
      rw [hR] at hown HN hrl ⊢
      clear hR
      obtain ⟨vq, hvq⟩ : ∃ q, (qsL dL a).sum = q := ⟨_, rfl⟩
      have HSU := Lib.hid (lsum_any vt vC dL a _ hm hq6 (i3.alloc (.cells #[.int .i64 va, .int .i64 vc, .slice vt dL.length vC] 169)))
      rw [hvq] at HN HSU
      have HE : Hid (sumsH (cs.take (k + 1)) a = R ++ [vq]) := Lib.hid HN.out
      clear HN hvq i3 hq6
      go_wp2_with fail
      refine HSU.out.mono ?_
      rintro e w1 ⟨rfl, hb⟩
      have hv0 := (Below.refl wr.heap.size wr).alloc (Nat.le_refl _) (.cells #[.int .i64 va, .int .i64 vc, .slice vt dL.length vC] 169)
      have hv1 := since_step hv0 hb
      have hB1 := hB.trans (hv1.mono hB.size)
      have hown1 := own_below hown hv1
      have hsz := hB1.size
      clear hb hv0 hv1 g0 g1 g2 HSU
      go_wp2_with (first
        | (at_builtin; refine wpList_app rfl (.tmp 19) (.tmp 24) rfl EWd rfl rfl (hown1.alloc _) (m := 1) (news := [.int .i64 (hiN vq), .int .u64 (loN vq)]) rfl (Sl.new_ _ _ _) (wide_one vq) (by unfold maxLen; omega) (by omega) (by simp only [World.size_alloc]; omega) ?_; intro A2 c2 w2 hown2 hg2 hb2)
        | fail)
      go_roundw
      case rel =>
        refine ⟨k + 1, A2, c2, by omega, by go_num, ?_, ?_, (since_alloc hB1 _).trans hb2⟩
        · rw [HE.out]; simp
        · rw [HE.out, wcells_snoc]; simpa using hown2
      case measure => simp [intOf]; omega
    · obtain rfl : k = l.length := by omega
      have hT : cs.take l.length = cs := by rw [HLC.out, List.take_length]
      rw [hT] at hown ⊢
      clear hT
      have hck := Lib.hid hlcs
      have HA := wadd_any A' c' (sumsH cs a) wr (by have := HQL.out; omega) HQI.out (Sl.of_own hown)
      rw [wideE_yes H128.out] at HA
      have hB1 := hB0.trans (hB.mono hWs)
      have G1 := T2.below G0 hB
      clear hown
      obtain ⟨z, hz⟩ : ∃ z, (sumsH cs a).sum = z := ⟨_, rfl⟩
      rw [hz] at HA
      have HZ := Lib.hid hz
      clear hz
      generalize (sumsH cs a).length = n at *
      go_wp2_with fail
      refine HA.mono ?_
      rintro e w1 ⟨rfl, hb⟩
      have hB2 := since_step hB1 hb
      have G2 := T2.below G1 hb
      have hcs := @cell_set
      obtain ⟨c0, c1, c2, f1, f2⟩ := id G2
      clear hb
      go_wp2_with fail
      refine bodyPost_ret (v := .agg #[.int .i64 (hiN z), .int .u64 (loN z)]) ?_ rfl ?_
      · have G3 := T2.alloc (T2.set2 G2 (hiN z) (loN z)) (.cells #[.int .i64 (hiN z), .int .u64 (loN z)] 28)
        obtain ⟨d0, d1, d2, _, _⟩ := G3
        generalize World.alloc _ _ = U at *
        simp [results, Try.results58, go_sem, d1, d2]
      · refine ⟨by rw [HZ.out], ?_⟩
        repeat' (first | with_reducible exact hB2 | with_reducible refine Below.setCell ?_ ?_ _ | with_reducible refine since_alloc ?_ _)
        all_goals simp
set_option maxHeartbeats 4000000 in
set_option maxRecDepth 100000 in
theorem rhtotal_any (A : Option Addr) (cap : Nat) (l : List Hd) (cs : List Hc) (a : Int) (w : World) (hl : l.length ≤ 900000) (hcl : ∀ g ∈ cs, g.L.length ≤ 900000) (h6 : ∀ g ∈ cs, ∀ y ∈ g.L, In64 y.qty) (hs : Sl w A (rc Hd.cells l)) (ht : HdTab w l cs) :
    Calls Try.prog 64 #[.slice A l.length cap, .int .i64 a] w fun e w' => bigR w w' e (sumsH cs a).sum ∧ Below w.heap.size w w' := by
  have HLC := Lib.hid ht.1
  have hlcs : cs.length ≤ 900000 := by have := HLC.out; omega
  have H6 := Lib.hid h6
  have HCL := Lib.hid hcl
  have hB0 := since_alloc (Below.refl _ w) (.cells #[.bool false, .slice none 0 0] 35)
  have G0 := BX.new (w := w) (B := w.heap.size + 1 + 1) (by omega) 35
  have hs0 := hs.alloc (.cells #[.bool false, .slice none 0 0] 35)
  have ht0 := ht.below hB0
  have hWe : (w.alloc (.cells #[.bool false, .slice none 0 0] 35)).heap.size = w.heap.size + 1 := World.size_alloc _ _
  clear hs h6 hcl ht
  go_enter Try.func64, Try.ntmps64
  go_upto_region 1 with fail
  generalize hWW : w.alloc (.cells #[.bool false, .slice none 0 0] 35) = W at *
  have ht0 : HdTab W l cs := ht0
  clear hWW
  have hWs := hB0.size
  rw [← hWe] at G0
  clear hWe
  go_wp2_with fail
  go_loopw [6] (fun i wr => ∃ (k : Nat) (s : Bool) (A' : Option Addr) (n' c' : Nat), k ≤ l.length ∧ i = .int .i64 k ∧ BX (W.heap.size + 1) wr W.heap.size s A' n' c' (sumsH (cs.take k) a).sum ∧ Below W.heap.size W wr) (fun i _ => l.length - (intOf i).toNat)
  case atStart => exact ⟨0, false, none, 0, 0, by omega, rfl, BX.new (by omega) _, since_alloc (Below.refl _ _) _⟩
  case round =>
    obtain ⟨k, s6, A6, n6, c6, hk, rfl, X6, hB⟩ := hrel
    by_cases hlt : k < l.length
    · have hlc : k < cs.length := HLC.out ▸ hlt
      obtain ⟨b, o, rfl, hbw, hg⟩ := hs0.hd hlt
      have hI := ht0.2 k hlt hlc
      have hlk : (k : Int) < (l.length : Int) := by omega
      have hge : (0 : Int) ≤ (k : Int) := by omega
      have hN := sums_sum cs a k hlc
      have hq6 := H6.out _ (List.getElem_mem hlc)
      have hm := HCL.out _ (List.getElem_mem hlc)
      have H128 := Lib.hid (sums_take H6.out HCL.out a k hlcs)
      have HG : Hid (∀ V, Below W.heap.size W V → l[k].at V b (o + k * 3)) := Lib.hid fun V hV => Hd.at_keep (w := W) hg fun i => hV.cell (p := ⟨b, i, none⟩) hbw
      clear hg
      generalize l[k] = v at *
      generalize cs[k] = d at *
      obtain ⟨va, vc, vt, vL, vC⟩ := v
      obtain ⟨da, dc, dL⟩ := d
      obtain ⟨i0, i1, i2, i3⟩ := hI
      simp only at i0 i1 i2 i3 hm hq6 hN
      subst i0; subst i1; subst i2
      unfold Hd.at at HG
      simp only at HG
      obtain ⟨y, hy⟩ : ∃ y, (sumsH (cs.take k) a).sum = y := ⟨_, rfl⟩
      rw [hy] at hN X6 H128
      clear hy
      have HQ := Lib.hid (fun V h => rsum_any vt vC dL a V hm hq6 h)
      have HV128 := Lib.hid (qsL_128 (a := a) hq6 hm)
      obtain ⟨vq, hvq⟩ : ∃ q, (qsL dL a).sum = q := ⟨_, rfl⟩
      rw [hvq] at hN HQ HV128
      have HS : Hid (∀ V, Below W.heap.size W V → Sl V vt (rc Lt.cells dL)) := Lib.hid fun V hV => i3.below hV
      clear hvq i3 hq6
      obtain ⟨g0, g1, g2⟩ := HG.out _ hB
      have HE : Hid ((sumsH (cs.take (k + 1)) a).sum = y + vq) := Lib.hid hN
      clear hN
      have X6 := X6.drew
      go_wp2_with fail
      refine wp_region_held_drew (S := (fun V => Below W.heap.size W V)) (by kernel_rfl) (by exact hB.drew) (fun hHeld => ?_)
      refine wpAnyH_take (i := 1) (oi := { dst := some 15, op := _, type := _, pos := _, after := _, guard := _ }) (v := ?_) rfl (by kernel_rfl) (by kernel_rfl) (by kernel_rfl) (fun _ _ _ h => h) (Or.inl ⟨by rfl, ?_⟩) hHeld ?_
      rotate_left
      · (intro w hSw; obtain ⟨g0, g1, g2⟩ := HG.out _ hSw; go_simp <;> with_reducible rfl)
      try simp only [Act.put, List.setIfInBounds_toArray, List.set_cons_zero, List.set_cons_succ]
      refine wpAnyH_take (i := 2) (oi := { dst := some 16, op := _, type := _, pos := _, after := _, guard := _ }) (v := ?_) rfl (by kernel_rfl) (by kernel_rfl) (by kernel_rfl) (fun _ _ _ h => h) (Or.inl ⟨by rfl, ?_⟩) hHeld ?_
      rotate_left
      · (intro w hSw; obtain ⟨g0, g1, g2⟩ := HG.out _ hSw; go_simp <;> with_reducible rfl)
      try simp only [Act.put, List.setIfInBounds_toArray, List.set_cons_zero, List.set_cons_succ]
      refine wpAnyH_take (i := 3) (oi := { dst := some 17, op := _, type := _, pos := _, after := _, guard := _ }) (v := ?_) rfl (by kernel_rfl) (by kernel_rfl) (by kernel_rfl) (fun _ _ _ h => h) (Or.inl ⟨by rfl, ?_⟩) hHeld ?_
      rotate_left
      · (intro w hSw; obtain ⟨g0, g1, g2⟩ := HG.out _ hSw; go_simp <;> with_reducible rfl)
      try simp only [Act.put, List.setIfInBounds_toArray, List.set_cons_zero, List.set_cons_succ]
      refine wpAnyH_take (i := 4) (oi := { dst := some 18, op := _, type := _, pos := _, after := _, guard := _ }) (v := ?_) rfl (by kernel_rfl) (by kernel_rfl) (by kernel_rfl) (fun _ _ _ h => h) (Or.inl ⟨by rfl, ?_⟩) hHeld ?_
      rotate_left
      · (intro w hSw; obtain ⟨g0, g1, g2⟩ := HG.out _ hSw; go_simp <;> with_reducible rfl)
      try simp only [Act.put, List.setIfInBounds_toArray, List.set_cons_zero, List.set_cons_succ]
      refine wpAnyH_take (i := 5) (oi := { dst := some 19, op := _, type := _, pos := _, after := _, guard := _ }) (v := ?_) rfl (by kernel_rfl) (by kernel_rfl) (by kernel_rfl) (fun _ _ _ h => h) (Or.inl ⟨by rfl, ?_⟩) hHeld ?_
      rotate_left
      · (intro w hSw; obtain ⟨g0, g1, g2⟩ := HG.out _ hSw; go_simp <;> with_reducible rfl)
      try simp only [Act.put, List.setIfInBounds_toArray, List.set_cons_zero, List.set_cons_succ]
      refine wpAnyH_take (i := 6) (oi := { dst := some 20, op := _, type := _, pos := _, after := _, guard := _ }) (v := ?_) rfl (by kernel_rfl) (by kernel_rfl) (by kernel_rfl) (fun _ _ _ h => h) (Or.inl ⟨by rfl, ?_⟩) hHeld ?_
      rotate_left
      · (intro w hSw; obtain ⟨g0, g1, g2⟩ := HG.out _ hSw; go_simp <;> with_reducible rfl)
      try simp only [Act.put, List.setIfInBounds_toArray, List.set_cons_zero, List.set_cons_succ]
      refine wpAnyH_ready (rs := [0, 7]) (by kernel_rfl) (by simp) ?_
      refine AllReadyH.cons (o := { dst := some 14, op := _, type := _, pos := _, after := _, guard := _ }) rfl (fun K hK => ?_) (AllReadyH.cons (o := { dst := some 21, op := _, type := _, pos := _, after := _, guard := _ }) rfl (fun K hK => ?_) AllReadyH.nil)
      · have hHd := hHeld
        obtain ⟨g0, g1, g2⟩ := HG.out _ hHd
        obtain ⟨b1, b2, b3, b4, b5⟩ := id X6.bb
        have hKeep := hHeld
        go_simp
        refine hK.out _ _ (by (try dsimp only); exact hKeep) (fun hHeld => ?_)
        clear hK K hKeep
        try simp only [Act.put, List.setIfInBounds_toArray, List.set_cons_zero, List.set_cons_succ]
        refine wpAnyH_ready (rs := [7]) (by kernel_rfl) (by simp) ?_
        refine AllReadyH.cons (o := { dst := some 21, op := _, type := _, pos := _, after := _, guard := _ }) rfl (fun K hK => ?_) AllReadyH.nil
        go_simp
        refine (HQ.out _ (HS.out _ hHeld)).mono ?_
        rintro e u1 ⟨⟨s1, A1, m1, k1, rfl, hf1, Y1⟩, hk1⟩
        have hKeep := since_step hHeld hk1
        have L1 := Y1.l128 HV128.out
        have X6 := X6.below hk1
        go_wp2_with fail
        refine hK.out _ _ (by (try dsimp only); exact hKeep) (fun hHeld => ?_)
        clear hK K hKeep
        try simp only [Act.put, List.setIfInBounds_toArray, List.set_cons_zero, List.set_cons_succ]
        refine wpAnyH_ready (rs := [8]) (by kernel_rfl) (by simp) ?_
        refine AllReadyH.cons (o := { dst := some 22, op := _, type := _, pos := _, after := _, guard := _ }) rfl (fun K hK => ?_) AllReadyH.nil
        go_simp
        have L6 := X6.at_.l128 H128.out
        have hgu := X6.bb.1
        refine (badd' (by omega) (by omega) X6.at_ Y1).mono ?_
        rintro e u2 ⟨⟨s2, A2, m2, k2, rfl, hf2, Y2⟩, hk2⟩
        have hKeep := since_step hHeld hk2
        have X6 := X6.below hk2
        go_wp2_with fail
        refine hK.out _ _ (by (try dsimp only); exact hKeep) (fun hHeld => ?_)
        clear hK K hKeep
        try simp only [Act.put, List.setIfInBounds_toArray, List.set_cons_zero, List.set_cons_succ]
        refine wpAnyH_ready (rs := [9]) (by kernel_rfl) (by simp) ?_
        refine AllReadyH.cons (o := { dst := none, op := _, type := _, pos := _, after := _, guard := _ }) rfl (fun K hK => ?_) AllReadyH.nil
        have hHd := hHeld
        obtain ⟨g0, g1, g2⟩ := HG.out _ hHd
        have hF : Fr (W.heap.size + 1) A2 m2 := hf2.le hgu (Nat.le_refl _)
        have X6n := X6.put Y2 hF
        obtain ⟨b1, b2, b3, b4, b5⟩ := id X6.bb
        have hKeep := Below.setCell (Below.setCell hHeld (p := ⟨W.heap.size, 0, none⟩) (Nat.le_refl _) (.bool s2)) (p := ⟨W.heap.size, 1, none⟩) (Nat.le_refl _) (.slice A2 m2 k2)
        skip
        go_simp
        refine hK.out _ _ (by (try dsimp only); exact hKeep) (fun hHeld => ?_)
        clear hK K hKeep
        try simp only [Act.put, List.setIfInBounds_toArray, List.set_cons_zero, List.set_cons_succ]
        refine wpAnyH_done (by kernel_rfl) ?_ _
        generalize hFW : ((u2.setCell ⟨W.heap.size, 0, none⟩ (.bool s2)).setCell ⟨W.heap.size, 1, none⟩ (.slice A2 m2 k2)) = FW at *
        go_wp2_with fail
        go_roundw
        case rel => exact ⟨k + 1, s2, A2, m2, k2, by omega, by go_num, by rw [HE.out]; exact X6n, hHeld⟩
        case measure => simp [intOf]; omega
      · go_simp
        refine (HQ.out _ (HS.out _ hHeld)).mono ?_
        rintro e u1 ⟨⟨s1, A1, m1, k1, rfl, hf1, Y1⟩, hk1⟩
        have hKeep := since_step hHeld hk1
        have L1 := Y1.l128 HV128.out
        have X6 := X6.below hk1
        go_wp2_with fail
        refine hK.out _ _ (by (try dsimp only); exact hKeep) (fun hHeld => ?_)
        clear hK K hKeep
        try simp only [Act.put, List.setIfInBounds_toArray, List.set_cons_zero, List.set_cons_succ]
        refine wpAnyH_ready (rs := [0]) (by kernel_rfl) (by simp) ?_
        refine AllReadyH.cons (o := { dst := some 14, op := _, type := _, pos := _, after := _, guard := _ }) rfl (fun K hK => ?_) AllReadyH.nil
        have hHd := hHeld
        obtain ⟨g0, g1, g2⟩ := HG.out _ hHd
        obtain ⟨b1, b2, b3, b4, b5⟩ := id X6.bb
        have hKeep := hHeld
        go_simp
        refine hK.out _ _ (by (try dsimp only); exact hKeep) (fun hHeld => ?_)
        clear hK K hKeep
        try simp only [Act.put, List.setIfInBounds_toArray, List.set_cons_zero, List.set_cons_succ]
        refine wpAnyH_ready (rs := [8]) (by kernel_rfl) (by simp) ?_
        refine AllReadyH.cons (o := { dst := some 22, op := _, type := _, pos := _, after := _, guard := _ }) rfl (fun K hK => ?_) AllReadyH.nil
        go_simp
        have L6 := X6.at_.l128 H128.out
        have hgu := X6.bb.1
        refine (badd' (by omega) (by omega) X6.at_ Y1).mono ?_
        rintro e u2 ⟨⟨s2, A2, m2, k2, rfl, hf2, Y2⟩, hk2⟩
        have hKeep := since_step hHeld hk2
        have X6 := X6.below hk2
        go_wp2_with fail
        refine hK.out _ _ (by (try dsimp only); exact hKeep) (fun hHeld => ?_)
        clear hK K hKeep
        try simp only [Act.put, List.setIfInBounds_toArray, List.set_cons_zero, List.set_cons_succ]
        refine wpAnyH_ready (rs := [9]) (by kernel_rfl) (by simp) ?_
        refine AllReadyH.cons (o := { dst := none, op := _, type := _, pos := _, after := _, guard := _ }) rfl (fun K hK => ?_) AllReadyH.nil
        have hHd := hHeld
        obtain ⟨g0, g1, g2⟩ := HG.out _ hHd
        have hF : Fr (W.heap.size + 1) A2 m2 := hf2.le hgu (Nat.le_refl _)
        have X6n := X6.put Y2 hF
        obtain ⟨b1, b2, b3, b4, b5⟩ := id X6.bb
        have hKeep := Below.setCell (Below.setCell hHeld (p := ⟨W.heap.size, 0, none⟩) (Nat.le_refl _) (.bool s2)) (p := ⟨W.heap.size, 1, none⟩) (Nat.le_refl _) (.slice A2 m2 k2)
        skip
        go_simp
        refine hK.out _ _ (by (try dsimp only); exact hKeep) (fun hHeld => ?_)
        clear hK K hKeep
        try simp only [Act.put, List.setIfInBounds_toArray, List.set_cons_zero, List.set_cons_succ]
        refine wpAnyH_done (by kernel_rfl) ?_ _
        generalize hFW : ((u2.setCell ⟨W.heap.size, 0, none⟩ (.bool s2)).setCell ⟨W.heap.size, 1, none⟩ (.slice A2 m2 k2)) = FW at *
        go_wp2_with fail
        go_roundw
        case rel => exact ⟨k + 1, s2, A2, m2, k2, by omega, by go_num, by rw [HE.out]; exact X6n, hHeld⟩
        case measure => simp [intOf]; omega
    · obtain rfl : k = l.length := by omega
      rw [HLC.out, List.take_length] at X6
      have hB1 := hB0.trans (hB.mono hWs)
      have G1 := G0.below hB
      have P := G1.put X6.at_ (X6.fr)
      have hcs := @cell_set
      have HFR := Lib.hid (X6.fr.le (B' := w.heap.size) (by omega) (Nat.le_refl _))
      obtain ⟨x1, x2, x3, x4, x5⟩ := id X6.bb
      obtain ⟨y1, y2, y3, y4, y5⟩ := id G1.bb
      clear hs0 ht0
      go_wp2_with fail
      refine bodyPost_ret (v := .agg #[.bool s6, .slice A6 n6 c6]) ?_ rfl ?_
      · obtain ⟨d0, d1, d2, _, _⟩ := P.bb
        generalize World.setCell _ _ _ = U at *
        simp [results, Try.results64, go_sem, d1, d2]
      · refine ⟨⟨s6, A6, n6, c6, rfl, HFR.out, P.at_⟩, ?_⟩
        repeat' (first | with_reducible exact hB1 | with_reducible refine Below.setCell ?_ ?_ _)
        all_goals simp
end Go.Proofs.Ytldnponbkhgijaa
end
section
namespace Go.Proofs.Ytldnponbkhgijaa
open Go.ChangeShapes Go.WideShapes Go.ChangeAt Go.RowKit
set_option linter.unusedVariables false
set_option linter.unusedSimpArgs false

set_option maxHeartbeats 16000000 in
set_option maxRecDepth 100000 in
theorem walk_HoldPuts (a0 : Option Addr) (n0 c0 : Nat) (a1 : Array Value) (a2 : Array Value) (a3 : Option Addr) (n3 c3 : Nat) (w : World) (w0 : Rd w (.sl (.cat (.cat (.int .i64) (.cat (.int .i64) .nil)) (.cat (.sl (.cat (.int .i64) (.cat (.int .i64) (.cat (.int .i64) .nil)))) .nil))) [.slice a0 n0 c0]) (w1 : Rd w (.cat (.int .i64) (.cat (.int .i64) .nil)) a1.toList) (w2 : Rd w (.cat (.int .i64) (.cat (.int .i64) (.cat (.int .i64) .nil))) a2.toList) (w3 : Rd w (.sl (.cat (.int .i64) (.cat (.int .i64) (.cat (.int .i64) .nil)))) [.slice a3 n3 c3]) :
    Calls Try.prog 11 #[.slice a0 n0 c0, .agg a1, .agg a2, .slice a3 n3 c3] w fun e w' => e = .returned (.bool true) ∧ Below w.heap.size w w' := by
  obtain ⟨l, rfl, _, _, hs, hd⟩ := rd_rowsP (f := Hd.cells) (fun r => rd_hold) w0
  obtain ⟨ua, uc, rfl⟩ := rd_two w1
  obtain ⟨xa, xt, xq, rfl, hx⟩ := rd_lt3 w2
  obtain ⟨l3, rfl, hl3, hc3, hs3, hq3⟩ := rd_rowsP (f := Lt.cells) (fun r => rd_ltrowH) w3
  clear w0 w1 w2 w3
  have hB := since_alloc (since_alloc (Below.refl _ w) (.cells #[.int .i64 ua, .int .i64 uc] 24)) (.cells #[.int .i64 xa, .int .i64 xt, .int .i64 xq] 93)
  have hK1 := (Bk.new w #[.int .i64 ua, .int .i64 uc] 24).alloc (.cells #[.int .i64 xa, .int .i64 xt, .int .i64 xq] 93)
  have hK2 := Bk.new (w.alloc (.cells #[.int .i64 ua, .int .i64 uc] 24)) #[.int .i64 xa, .int .i64 xt, .int .i64 xq] 93
  rw [World.size_alloc] at hK2
  have HF1 := Lib.hid (few26_any a0 c0 l _ (hs.below hB) (fun g hg => (hd g hg).below hB))
  obtain ⟨M, hM⟩ : ∃ M, l3.take 20 = M := ⟨_, rfl⟩
  have hM20 : M.length ≤ 20 := by rw [← hM]; simp; omega
  have hsM : Sl w a3 (rc Lt.cells M) := by rw [← hM, ← rc_take Lt.len]; exact hs3.take _
  have HF2 := few18_any a3 c3 l3
  rw [hM] at HF2
  have HF2 := Lib.hid (fun V h => HF2 V hl3 hc3 h)
  have hs3 := hs3.below hB
  have hsM := hsM.below hB
  have HLV := Lib.hid (fun V => lives26_any V)
  clear hs hd hM hl3 hc3 hq3
  go_enter Try.func11, Try.ntmps11
  go_upto_region 1 with fail
  generalize hWW : (w.alloc (.cells #[.int .i64 ua, .int .i64 uc] 24)).alloc (.cells #[.int .i64 xa, .int .i64 xt, .int .i64 xq] 93) = W at *
  clear hWW
  obtain ⟨hK1_l, hK1_c⟩ := id hK1
  have hK1_0 := hK1_c 0
  have hK1_1 := hK1_c 1
  simp at hK1_0 hK1_1
  clear hK1_c
  obtain ⟨hK2_l, hK2_c⟩ := id hK2
  have hK2_0 := hK2_c 0
  have hK2_1 := hK2_c 1
  have hK2_2 := hK2_c 2
  simp at hK2_0 hK2_1 hK2_2
  clear hK2_c
  go_wp2_with fail
  refine (HF1.out).mono ?_
  rintro e z1 ⟨⟨R, cs, A, c, rfl, hs, ht, hcap, hR, hgd⟩, hb⟩
  have hB := since_step hB hb
  have hK1 := hK1.below hb
  have hK2 := hK2.below hb
  have hs3 := hs3.below hb
  have hsM := hsM.below hb
  clear hb
  clear hK1_l hK1_0 hK1_1 hK2_l hK2_0 hK2_1 hK2_2
  have hRc := ht.1
  have hR9 : R.length ≤ 900000 := by omega
  have hcl9 : ∀ g ∈ cs, g.L.length ≤ 900000 := fun g hg => Nat.le_trans (hgd.1 g hg) (by omega)
  have hM9 : M.length ≤ 900000 := by omega
  have HIS := Lib.hid (fun V h1 h2 => his_any A c R cs V hR9 hcl9 h1 h2)
  have HRI := Lib.hid (fun V h1 h2 => rhis_any A c R cs V hR9 hcl9 h1 h2)
  have HLO := Lib.hid (fun V h1 h2 => hlots_any A c R cs ua uc V hR9 hcl9 h1 h2)
  have HRL := Lib.hid (fun V h1 h2 => rhlots_any A c R cs ua uc V hR9 h1 h2)
  have hln := lotsH_len hgd.1 ua uc
  have HTT := Lib.hid (fun V h1 h2 => htotal_any A c R cs xa V hR9 hcl9 hgd.2 h1 h2)
  have HRT := Lib.hid (fun V h1 h2 => rhtotal_any A c R cs xa V hR9 hcl9 hgd.2 h1 h2)
  have H128 := Lib.hid (sums_128 hgd.2 hcl9 xa (by omega))
  have HWD := Lib.hid (fun V => rwide_any (sumsH cs xa).sum H128.out V)
  have HP1 := Lib.hid (fun V h1 h2 => hput_any A c R cs ua uc xa xt xq V hR9 hcl9 hx hgd.2 h1 h2)
  have HP2 := Lib.hid (fun V h1 h2 => rhput_any A c R cs ua uc xa xt xq V hR9 hcl9 hx hgd.2 hcap h1 h2)
  have HT1 := Lib.hid (fun V h1 h2 => htake_any A c R cs ua uc xa xt xq V hR9 hcl9 hx hgd.2 h1 h2)
  have HT2 := Lib.hid (fun V h1 h2 => rhtake_any A c R cs ua uc xa xt xq V hR9 hcl9 hx hgd.2 hcap h1 h2)
  have HS1 := Lib.hid (fun V h1 h2 h3 => hset_any A c R cs ua uc a3 c3 M V hR9 hcl9 hM9 h1 h2 h3)
  have HS2 := Lib.hid (fun V h1 h2 h3 => rhset_any A c R cs ua uc a3 c3 M V hR9 hcl9 hM9 hcap h1 h2 h3)
  have hpb := chg_bd (how := fun m => putLR m ⟨xa, xt, xq⟩) (fun m => putLR_lenH m _) hgd.1 ua uc
  have htb := chg_bd (how := fun m => takeLR m ⟨xa, xt, xq⟩) (fun m => takeLR_lenH m _) hgd.1 ua uc
  have hsb := set_bd hgd.1 ua uc hM20
  obtain ⟨pn, PL, hP⟩ : ∃ n L, chgHR (fun m => putLR m ⟨xa, xt, xq⟩) cs ua uc = (n, L) := ⟨_, _, rfl⟩
  obtain ⟨tn, TL, hT⟩ : ∃ n L, chgHR (fun m => takeLR m ⟨xa, xt, xq⟩) cs ua uc = (n, L) := ⟨_, _, rfl⟩
  obtain ⟨sn, SL, hS⟩ : ∃ n L, setHR cs ua uc M = (n, L) := ⟨_, _, rfl⟩
  rw [hP] at HP1 HP2 hpb
  rw [hT] at HT1 HT2 htb
  rw [hS] at HS1 HS2 hsb
  simp only at hpb htb hsb
  have HSP := Lib.hid (fun A1 c1 l1 A2 c2 l2 V h1 t1 h2 t2 => rhsame_self A1 c1 l1 A2 c2 l2 PL V (by have := (show HdTab V l1 PL from t1).1; omega) (fun g hg => Nat.le_trans (hpb.2 g hg) (by omega)) h1 t1 h2 t2)
  have HST := Lib.hid (fun A1 c1 l1 A2 c2 l2 V h1 t1 h2 t2 => rhsame_self A1 c1 l1 A2 c2 l2 TL V (by have := (show HdTab V l1 TL from t1).1; omega) (fun g hg => Nat.le_trans (htb.2 g hg) (by omega)) h1 t1 h2 t2)
  have HSS := Lib.hid (fun A1 c1 l1 A2 c2 l2 V h1 t1 h2 t2 => rhsame_self A1 c1 l1 A2 c2 l2 SL V (by have := (show HdTab V l1 SL from t1).1; omega) (fun g hg => Nat.le_trans (hsb.2 g hg) (by omega)) h1 t1 h2 t2)
  unfold HRes at HP1 HP2 HT1 HT2 HS1 HS2
  simp only at HP1 HP2 HT1 HT2 HS1 HS2
  have hpn : (pn == pn) = true := by simp
  have htn : (tn == tn) = true := by simp
  have hsn : (sn == sn) = true := by simp
  have HSL := Lib.hid (fun A1 A2 c1 c2 V h1 h2 => rlsame_any_self A1 A2 c1 c2 (lotsH cs ua uc) V (by omega) h1 h2)
  generalize lotsH cs ua uc = L0 at *
  generalize (sumsH cs xa).sum = sm at *
  generalize isH cs = bi at *
  have hbi : (bi == bi) = true := by simp
  have hbi2 : (bi != bi) = false := by simp
  have HT := Lib.hid (And.intro hs ht)
  clear hs ht hcap hR hgd hRc hpb htb hsb hP hT hS hx hR9 hcl9 hM9 hln hM20
  obtain ⟨hK1_l, hK1_c⟩ := id hK1
  have hK1_0 := hK1_c 0
  have hK1_1 := hK1_c 1
  simp at hK1_0 hK1_1
  clear hK1_c
  obtain ⟨hK2_l, hK2_c⟩ := id hK2
  have hK2_0 := hK2_c 0
  have hK2_1 := hK2_c 1
  have hK2_2 := hK2_c 2
  simp at hK2_0 hK2_1 hK2_2
  clear hK2_c
  go_wp2_with fail
  refine (HF2.out _ hs3).mono ?_
  rintro e z2 ⟨rfl, hb⟩
  have hB := since_step hB hb
  have hK1 := hK1.below hb
  have hK2 := hK2.below hb
  have hs3 := hs3.below hb
  have hsM := hsM.below hb
  have HT := Lib.hid (And.intro (HT.out.1.below hb) (HT.out.2.below hb))
  clear hb
  clear hK1_l hK1_0 hK1_1 hK2_l hK2_0 hK2_1 hK2_2
  clear hs3
  obtain ⟨hK1_l, hK1_c⟩ := id hK1
  have hK1_0 := hK1_c 0
  have hK1_1 := hK1_c 1
  simp at hK1_0 hK1_1
  clear hK1_c
  obtain ⟨hK2_l, hK2_c⟩ := id hK2
  have hK2_0 := hK2_c 0
  have hK2_1 := hK2_c 1
  have hK2_2 := hK2_c 2
  simp at hK2_0 hK2_1 hK2_2
  clear hK2_c
  go_wp2_with fail
  refine (HTT.out _ HT.out.1 HT.out.2).mono ?_
  rintro e z3 ⟨rfl, hb⟩
  have hB := since_step hB hb
  have hK1 := hK1.below hb
  have hK2 := hK2.below hb
  have hsM := hsM.below hb
  have HT := Lib.hid (And.intro (HT.out.1.below hb) (HT.out.2.below hb))
  clear hb
  clear hK1_l hK1_0 hK1_1 hK2_l hK2_0 hK2_1 hK2_2
  obtain ⟨hK1_l, hK1_c⟩ := id hK1
  have hK1_0 := hK1_c 0
  have hK1_1 := hK1_c 1
  simp at hK1_0 hK1_1
  clear hK1_c
  obtain ⟨hK2_l, hK2_c⟩ := id hK2
  have hK2_0 := hK2_c 0
  have hK2_1 := hK2_c 1
  have hK2_2 := hK2_c 2
  simp at hK2_0 hK2_1 hK2_2
  clear hK2_c
  go_upto_region 3 with fail
  have hK := Bk.new z3 #[.int .i64 (hiN sm), .int .u64 (loN sm)] 28
  have hA := (Below.refl z3.heap.size z3).alloc (Nat.le_refl _) (.cells #[.int .i64 (hiN sm), .int .u64 (loN sm)] 28)
  have hK1 := hK1.below hA
  have hK2 := hK2.below hA
  have hsM := hsM.below hA
  have HT := Lib.hid (And.intro (HT.out.1.below hA) (HT.out.2.below hA))
  have hB := since_step hB hA
  clear hA
  generalize hWW : z3.alloc (.cells #[.int .i64 (hiN sm), .int .u64 (loN sm)] 28) = U at *
  clear hWW
  clear hK1_l hK1_0 hK1_1 hK2_l hK2_0 hK2_1 hK2_2
  have HK1 : Hid (∀ V, Below U.heap.size U V → Bk V w.heap.size #[.int .i64 ua, .int .i64 uc]) := Lib.hid fun V h => hK1.below h
  have HK2 : Hid (∀ V, Below U.heap.size U V → Bk V (w.heap.size + 1) #[.int .i64 xa, .int .i64 xt, .int .i64 xq]) := Lib.hid fun V h => hK2.below h
  have HK : Hid (∀ V, Below U.heap.size U V → Bk V z3.heap.size #[.int .i64 (hiN sm), .int .u64 (loN sm)]) := Lib.hid fun V h => hK.below h
  have HR0 : Hid (∀ V, Below U.heap.size U V → Sl V A (rc Hd.cells R) ∧ HdTab V R cs) := Lib.hid fun V h => ⟨HT.out.1.below h, HT.out.2.below h⟩
  have HM0 : Hid (∀ V, Below U.heap.size U V → Sl V a3 (rc Lt.cells M)) := Lib.hid fun V h => hsM.below h
  have hszU := hB.size
  clear hK1 hK2 hK HT hsM
  go_wp2_with fail
  refine wp_region_held_drew (S := (fun V => Below U.heap.size U V)) (by kernel_rfl) (by exact (Below.refl _ _).drew) (fun hHeld => ?_)
  refine wpAnyH_take (i := 0) (oi := { dst := some 30, op := _, type := _, pos := _, after := _, guard := _ }) (v := ?_) rfl (by kernel_rfl) (by kernel_rfl) (by kernel_rfl) (fun _ _ _ h => h) (Or.inl ⟨by rfl, ?_⟩) hHeld ?_
  rotate_left
  · (intro w hSw; have cu := (HK1.out _ hSw).2; have u0 := cu 0; have u1 := cu 1; have cx := (HK2.out _ hSw).2; have x0 := cx 0; have ck := (HK.out _ hSw).2; have k0 := ck 0; have k1 := ck 1; simp at u0 u1 x0 k0 k1; clear cu cx ck; go_simp <;> with_reducible rfl)
  try simp only [Act.put, List.setIfInBounds_toArray, List.set_cons_zero, List.set_cons_succ]
  refine wpAnyH_take (i := 2) (oi := { dst := some 32, op := _, type := _, pos := _, after := _, guard := _ }) (v := ?_) rfl (by kernel_rfl) (by kernel_rfl) (by kernel_rfl) (fun _ _ _ h => h) (Or.inl ⟨by rfl, ?_⟩) hHeld ?_
  rotate_left
  · (intro w hSw; have cu := (HK1.out _ hSw).2; have u0 := cu 0; have u1 := cu 1; have cx := (HK2.out _ hSw).2; have x0 := cx 0; have ck := (HK.out _ hSw).2; have k0 := ck 0; have k1 := ck 1; simp at u0 u1 x0 k0 k1; clear cu cx ck; go_simp <;> with_reducible rfl)
  try simp only [Act.put, List.setIfInBounds_toArray, List.set_cons_zero, List.set_cons_succ]
  refine wpAnyH_ready (rs := [1]) (by kernel_rfl) (by simp) ?_
  refine AllReadyH.cons (o := { dst := some 31, op := _, type := _, pos := _, after := _, guard := _ }) rfl (fun K hK => ?_) AllReadyH.nil
  go_simp
  refine (HIS.out _ (HR0.out _ hHeld).1 (HR0.out _ hHeld).2).mono ?_
  rintro e x1 ⟨rfl, hk1⟩
  have hKeep := since_step hHeld hk1
  go_wp2_with fail
  refine hK.out _ _ (by (try dsimp only); exact hKeep) (fun hHeld => ?_)
  clear hK K hKeep
  try simp only [Act.put, List.setIfInBounds_toArray, List.set_cons_zero, List.set_cons_succ]
  refine wpAnyH_ready (rs := [3]) (by kernel_rfl) (by simp) ?_
  refine AllReadyH.cons (o := { dst := some 33, op := _, type := _, pos := _, after := _, guard := _ }) rfl (fun K hK => ?_) AllReadyH.nil
  go_simp
  refine (HRI.out _ (HR0.out _ hHeld).1 (HR0.out _ hHeld).2).mono ?_
  rintro e x2 ⟨rfl, hk2⟩
  have hKeep := since_step hHeld hk2
  go_wp2_with fail
  refine hK.out _ _ (by (try dsimp only); exact hKeep) (fun hHeld => ?_)
  clear hK K hKeep
  try simp only [Act.put, List.setIfInBounds_toArray, List.set_cons_zero, List.set_cons_succ]
  refine wpAnyH_take (i := 4) (oi := { dst := some 34, op := _, type := _, pos := _, after := _, guard := _ }) (v := ?_) rfl (by kernel_rfl) (by kernel_rfl) (by kernel_rfl) (fun _ _ _ h => h) (Or.inl ⟨by rfl, ?_⟩) hHeld ?_
  rotate_left
  · (intro w hSw; have cu := (HK1.out _ hSw).2; have u0 := cu 0; have u1 := cu 1; have cx := (HK2.out _ hSw).2; have x0 := cx 0; have ck := (HK.out _ hSw).2; have k0 := ck 0; have k1 := ck 1; simp at u0 u1 x0 k0 k1; clear cu cx ck; go_simp <;> with_reducible rfl)
  try simp only [Act.put, List.setIfInBounds_toArray, List.set_cons_zero, List.set_cons_succ]
  refine wpAnyH_take (i := 5) (oi := { dst := some 35, op := _, type := _, pos := _, after := _, guard := _ }) (v := ?_) rfl (by kernel_rfl) (by kernel_rfl) (by kernel_rfl) (fun _ _ _ h => h) (Or.inl ⟨by rfl, ?_⟩) hHeld ?_
  rotate_left
  · (intro w hSw; have cu := (HK1.out _ hSw).2; have u0 := cu 0; have u1 := cu 1; have cx := (HK2.out _ hSw).2; have x0 := cx 0; have ck := (HK.out _ hSw).2; have k0 := ck 0; have k1 := ck 1; simp at u0 u1 x0 k0 k1; clear cu cx ck; go_simp <;> with_reducible rfl)
  try simp only [Act.put, List.setIfInBounds_toArray, List.set_cons_zero, List.set_cons_succ]
  refine wpAnyH_take (i := 6) (oi := { dst := some 36, op := _, type := _, pos := _, after := _, guard := _ }) (v := ?_) rfl (by kernel_rfl) (by kernel_rfl) (by kernel_rfl) (fun _ _ _ h => h) (Or.inl ⟨by rfl, ?_⟩) hHeld ?_
  rotate_left
  · (intro w hSw; have cu := (HK1.out _ hSw).2; have u0 := cu 0; have u1 := cu 1; have cx := (HK2.out _ hSw).2; have x0 := cx 0; have ck := (HK.out _ hSw).2; have k0 := ck 0; have k1 := ck 1; simp at u0 u1 x0 k0 k1; clear cu cx ck; go_simp <;> with_reducible rfl)
  try simp only [Act.put, List.setIfInBounds_toArray, List.set_cons_zero, List.set_cons_succ]
  refine wpAnyH_take (i := 7) (oi := { dst := some 37, op := _, type := _, pos := _, after := _, guard := _ }) (v := ?_) rfl (by kernel_rfl) (by kernel_rfl) (by kernel_rfl) (fun _ _ _ h => h) (Or.inl ⟨by rfl, ?_⟩) hHeld ?_
  rotate_left
  · (intro w hSw; have cu := (HK1.out _ hSw).2; have u0 := cu 0; have u1 := cu 1; have cx := (HK2.out _ hSw).2; have x0 := cx 0; have ck := (HK.out _ hSw).2; have k0 := ck 0; have k1 := ck 1; simp at u0 u1 x0 k0 k1; clear cu cx ck; go_simp <;> with_reducible rfl)
  try simp only [Act.put, List.setIfInBounds_toArray, List.set_cons_zero, List.set_cons_succ]
  refine wpAnyH_take (i := 9) (oi := { dst := some 39, op := _, type := _, pos := _, after := _, guard := _ }) (v := ?_) rfl (by kernel_rfl) (by kernel_rfl) (by kernel_rfl) (fun _ _ _ h => h) (Or.inl ⟨by rfl, ?_⟩) hHeld ?_
  rotate_left
  · (intro w hSw; have cu := (HK1.out _ hSw).2; have u0 := cu 0; have u1 := cu 1; have cx := (HK2.out _ hSw).2; have x0 := cx 0; have ck := (HK.out _ hSw).2; have k0 := ck 0; have k1 := ck 1; simp at u0 u1 x0 k0 k1; clear cu cx ck; go_simp <;> with_reducible rfl)
  try simp only [Act.put, List.setIfInBounds_toArray, List.set_cons_zero, List.set_cons_succ]
  refine wpAnyH_take (i := 10) (oi := { dst := some 40, op := _, type := _, pos := _, after := _, guard := _ }) (v := ?_) rfl (by kernel_rfl) (by kernel_rfl) (by kernel_rfl) (fun _ _ _ h => h) (Or.inl ⟨by rfl, ?_⟩) hHeld ?_
  rotate_left
  · (intro w hSw; have cu := (HK1.out _ hSw).2; have u0 := cu 0; have u1 := cu 1; have cx := (HK2.out _ hSw).2; have x0 := cx 0; have ck := (HK.out _ hSw).2; have k0 := ck 0; have k1 := ck 1; simp at u0 u1 x0 k0 k1; clear cu cx ck; go_simp <;> with_reducible rfl)
  try simp only [Act.put, List.setIfInBounds_toArray, List.set_cons_zero, List.set_cons_succ]
  refine wpAnyH_ready (rs := [8]) (by kernel_rfl) (by simp) ?_
  refine AllReadyH.cons (o := { dst := some 38, op := _, type := _, pos := _, after := _, guard := _ }) rfl (fun K hK => ?_) AllReadyH.nil
  go_simp
  refine (HLO.out _ (HR0.out _ hHeld).1 (HR0.out _ hHeld).2).mono ?_
  rintro e x3 ⟨⟨A8, c8, rfl, o8⟩, hk3⟩
  have hKeep := since_step hHeld hk3
  have h8 := Sl.of_own o8
  clear o8
  go_wp2_with fail
  refine hK.out _ _ (by (try dsimp only); exact hKeep) (fun hHeld => ?_)
  clear hK K hKeep
  try simp only [Act.put, List.setIfInBounds_toArray, List.set_cons_zero, List.set_cons_succ]
  refine wpAnyH_ready (rs := [11]) (by kernel_rfl) (by simp) ?_
  refine AllReadyH.cons (o := { dst := some 41, op := _, type := _, pos := _, after := _, guard := _ }) rfl (fun K hK => ?_) AllReadyH.nil
  go_simp
  refine (HRL.out _ (HR0.out _ hHeld).1 (HR0.out _ hHeld).2).mono ?_
  rintro e x4 ⟨⟨A9, c9, rfl, h9⟩, hk4⟩
  have hKeep := since_step hHeld hk4
  have h8 := h8.below hk4
  go_wp2_with fail
  refine hK.out _ _ (by (try dsimp only); exact hKeep) (fun hHeld => ?_)
  clear hK K hKeep
  try simp only [Act.put, List.setIfInBounds_toArray, List.set_cons_zero, List.set_cons_succ]
  refine wpAnyH_ready (rs := [12]) (by kernel_rfl) (by simp) ?_
  refine AllReadyH.cons (o := { dst := some 42, op := _, type := _, pos := _, after := _, guard := _ }) rfl (fun K hK => ?_) AllReadyH.nil
  go_simp
  refine (HSL.out A8 A9 c8 c9 _ h8 h9).mono ?_
  rintro e x5 ⟨rfl, hk5⟩
  have hKeep := since_step hHeld hk5
  clear h8 h9
  go_wp2_with fail
  refine hK.out _ _ (by (try dsimp only); exact hKeep) (fun hHeld => ?_)
  clear hK K hKeep
  try simp only [Act.put, List.setIfInBounds_toArray, List.set_cons_zero, List.set_cons_succ]
  refine wpAnyH_take (i := 13) (oi := { dst := some 43, op := _, type := _, pos := _, after := _, guard := _ }) (v := ?_) rfl (by kernel_rfl) (by kernel_rfl) (by kernel_rfl) (fun _ _ _ h => h) (Or.inl ⟨by rfl, ?_⟩) hHeld ?_
  rotate_left
  · (intro w hSw; have cu := (HK1.out _ hSw).2; have u0 := cu 0; have u1 := cu 1; have cx := (HK2.out _ hSw).2; have x0 := cx 0; have ck := (HK.out _ hSw).2; have k0 := ck 0; have k1 := ck 1; simp at u0 u1 x0 k0 k1; clear cu cx ck; go_simp <;> with_reducible rfl)
  try simp only [Act.put, List.setIfInBounds_toArray, List.set_cons_zero, List.set_cons_succ]
  refine wpAnyH_take (i := 14) (oi := { dst := some 44, op := _, type := _, pos := _, after := _, guard := _ }) (v := ?_) rfl (by kernel_rfl) (by kernel_rfl) (by kernel_rfl) (fun _ _ _ h => h) (Or.inl ⟨by rfl, ?_⟩) hHeld ?_
  rotate_left
  · (intro w hSw; have cu := (HK1.out _ hSw).2; have u0 := cu 0; have u1 := cu 1; have cx := (HK2.out _ hSw).2; have x0 := cx 0; have ck := (HK.out _ hSw).2; have k0 := ck 0; have k1 := ck 1; simp at u0 u1 x0 k0 k1; clear cu cx ck; go_simp <;> with_reducible rfl)
  try simp only [Act.put, List.setIfInBounds_toArray, List.set_cons_zero, List.set_cons_succ]
  refine wpAnyH_take (i := 15) (oi := { dst := some 45, op := _, type := _, pos := _, after := _, guard := _ }) (v := ?_) rfl (by kernel_rfl) (by kernel_rfl) (by kernel_rfl) (fun _ _ _ h => h) (Or.inl ⟨by rfl, ?_⟩) hHeld ?_
  rotate_left
  · (intro w hSw; have cu := (HK1.out _ hSw).2; have u0 := cu 0; have u1 := cu 1; have cx := (HK2.out _ hSw).2; have x0 := cx 0; have ck := (HK.out _ hSw).2; have k0 := ck 0; have k1 := ck 1; simp at u0 u1 x0 k0 k1; clear cu cx ck; go_simp <;> with_reducible rfl)
  try simp only [Act.put, List.setIfInBounds_toArray, List.set_cons_zero, List.set_cons_succ]
  refine wpAnyH_take (i := 16) (oi := { dst := some 46, op := _, type := _, pos := _, after := _, guard := _ }) (v := ?_) rfl (by kernel_rfl) (by kernel_rfl) (by kernel_rfl) (fun _ _ _ h => h) (Or.inl ⟨by rfl, ?_⟩) hHeld ?_
  rotate_left
  · (intro w hSw; have cu := (HK1.out _ hSw).2; have u0 := cu 0; have u1 := cu 1; have cx := (HK2.out _ hSw).2; have x0 := cx 0; have ck := (HK.out _ hSw).2; have k0 := ck 0; have k1 := ck 1; simp at u0 u1 x0 k0 k1; clear cu cx ck; go_simp <;> with_reducible rfl)
  try simp only [Act.put, List.setIfInBounds_toArray, List.set_cons_zero, List.set_cons_succ]
  refine wpAnyH_take (i := 17) (oi := { dst := some 47, op := _, type := _, pos := _, after := _, guard := _ }) (v := ?_) rfl (by kernel_rfl) (by kernel_rfl) (by kernel_rfl) (fun _ _ _ h => h) (Or.inl ⟨by rfl, ?_⟩) hHeld ?_
  rotate_left
  · (intro w hSw; have cu := (HK1.out _ hSw).2; have u0 := cu 0; have u1 := cu 1; have cx := (HK2.out _ hSw).2; have x0 := cx 0; have ck := (HK.out _ hSw).2; have k0 := ck 0; have k1 := ck 1; simp at u0 u1 x0 k0 k1; clear cu cx ck; go_simp <;> with_reducible rfl)
  try simp only [Act.put, List.setIfInBounds_toArray, List.set_cons_zero, List.set_cons_succ]
  refine wpAnyH_take (i := 18) (oi := { dst := some 48, op := _, type := _, pos := _, after := _, guard := _ }) (v := ?_) rfl (by kernel_rfl) (by kernel_rfl) (by kernel_rfl) (fun _ _ _ h => h) (Or.inl ⟨by rfl, ?_⟩) hHeld ?_
  rotate_left
  · (intro w hSw; have cu := (HK1.out _ hSw).2; have u0 := cu 0; have u1 := cu 1; have cx := (HK2.out _ hSw).2; have x0 := cx 0; have ck := (HK.out _ hSw).2; have k0 := ck 0; have k1 := ck 1; simp at u0 u1 x0 k0 k1; clear cu cx ck; go_simp <;> with_reducible rfl)
  try simp only [Act.put, List.setIfInBounds_toArray, List.set_cons_zero, List.set_cons_succ]
  refine wpAnyH_take (i := 19) (oi := { dst := some 49, op := _, type := _, pos := _, after := _, guard := _ }) (v := ?_) rfl (by kernel_rfl) (by kernel_rfl) (by kernel_rfl) (fun _ _ _ h => h) (Or.inl ⟨by rfl, ?_⟩) hHeld ?_
  rotate_left
  · (intro w hSw; have cu := (HK1.out _ hSw).2; have u0 := cu 0; have u1 := cu 1; have cx := (HK2.out _ hSw).2; have x0 := cx 0; have ck := (HK.out _ hSw).2; have k0 := ck 0; have k1 := ck 1; simp at u0 u1 x0 k0 k1; clear cu cx ck; go_simp <;> with_reducible rfl)
  try simp only [Act.put, List.setIfInBounds_toArray, List.set_cons_zero, List.set_cons_succ]
  refine wpAnyH_take (i := 21) (oi := { dst := some 51, op := _, type := _, pos := _, after := _, guard := _ }) (v := ?_) rfl (by kernel_rfl) (by kernel_rfl) (by kernel_rfl) (fun _ _ _ h => h) (Or.inl ⟨by rfl, ?_⟩) hHeld ?_
  rotate_left
  · (intro w hSw; have cu := (HK1.out _ hSw).2; have u0 := cu 0; have u1 := cu 1; have cx := (HK2.out _ hSw).2; have x0 := cx 0; have ck := (HK.out _ hSw).2; have k0 := ck 0; have k1 := ck 1; simp at u0 u1 x0 k0 k1; clear cu cx ck; go_simp <;> with_reducible rfl)
  try simp only [Act.put, List.setIfInBounds_toArray, List.set_cons_zero, List.set_cons_succ]
  refine wpAnyH_take (i := 22) (oi := { dst := some 52, op := _, type := _, pos := _, after := _, guard := _ }) (v := ?_) rfl (by kernel_rfl) (by kernel_rfl) (by kernel_rfl) (fun _ _ _ h => h) (Or.inl ⟨by rfl, ?_⟩) hHeld ?_
  rotate_left
  · (intro w hSw; have cu := (HK1.out _ hSw).2; have u0 := cu 0; have u1 := cu 1; have cx := (HK2.out _ hSw).2; have x0 := cx 0; have ck := (HK.out _ hSw).2; have k0 := ck 0; have k1 := ck 1; simp at u0 u1 x0 k0 k1; clear cu cx ck; go_simp <;> with_reducible rfl)
  try simp only [Act.put, List.setIfInBounds_toArray, List.set_cons_zero, List.set_cons_succ]
  refine wpAnyH_take (i := 23) (oi := { dst := some 53, op := _, type := _, pos := _, after := _, guard := _ }) (v := ?_) rfl (by kernel_rfl) (by kernel_rfl) (by kernel_rfl) (fun _ _ _ h => h) (Or.inl ⟨by rfl, ?_⟩) hHeld ?_
  rotate_left
  · (intro w hSw; have cu := (HK1.out _ hSw).2; have u0 := cu 0; have u1 := cu 1; have cx := (HK2.out _ hSw).2; have x0 := cx 0; have ck := (HK.out _ hSw).2; have k0 := ck 0; have k1 := ck 1; simp at u0 u1 x0 k0 k1; clear cu cx ck; go_simp <;> with_reducible rfl)
  try simp only [Act.put, List.setIfInBounds_toArray, List.set_cons_zero, List.set_cons_succ]
  refine wpAnyH_ready (rs := [20]) (by kernel_rfl) (by simp) ?_
  refine AllReadyH.cons (o := { dst := some 50, op := _, type := _, pos := _, after := _, guard := _ }) rfl (fun K hK => ?_) AllReadyH.nil
  go_simp
  refine (HWD.out _).mono ?_
  rintro e x6 ⟨⟨s1, B1, n1, d1, rfl, hf1, Y1⟩, hk6⟩
  have hKeep := since_step hHeld hk6
  have L1 := Y1.l128 H128.out
  go_wp2_with fail
  refine hK.out _ _ (by (try dsimp only); exact hKeep) (fun hHeld => ?_)
  clear hK K hKeep
  try simp only [Act.put, List.setIfInBounds_toArray, List.set_cons_zero, List.set_cons_succ]
  refine wpAnyH_ready (rs := [24]) (by kernel_rfl) (by simp) ?_
  refine AllReadyH.cons (o := { dst := some 54, op := _, type := _, pos := _, after := _, guard := _ }) rfl (fun K hK => ?_) AllReadyH.nil
  go_simp
  refine (HRT.out _ (HR0.out _ hHeld).1 (HR0.out _ hHeld).2).mono ?_
  rintro e x7 ⟨⟨s2, B2, n2, d2, rfl, hf2, Y2⟩, hk7⟩
  have hKeep := since_step hHeld hk7
  have L2 := Y2.l128 H128.out
  have Y1 := Y1.below hk7
  go_wp2_with fail
  refine hK.out _ _ (by (try dsimp only); exact hKeep) (fun hHeld => ?_)
  clear hK K hKeep
  try simp only [Act.put, List.setIfInBounds_toArray, List.set_cons_zero, List.set_cons_succ]
  refine wpAnyH_ready (rs := [25]) (by kernel_rfl) (by simp) ?_
  refine AllReadyH.cons (o := { dst := some 55, op := _, type := _, pos := _, after := _, guard := _ }) rfl (fun K hK => ?_) AllReadyH.nil
  go_simp
  refine (bcmp_any _ _ _ _ _ _ _ _ _ _ _ (by omega) (by omega) Y1 Y2).mono ?_
  rintro e x8 ⟨rfl, hk8⟩
  have hKeep := since_step hHeld hk8
  have hcz : cmpZ sm sm = 0 := by unfold cmpZ; rw [if_pos rfl]
  rw [hcz]
  go_wp2_with fail
  refine hK.out _ _ (by (try dsimp only); exact hKeep) (fun hHeld => ?_)
  clear hK K hKeep
  try simp only [Act.put, List.setIfInBounds_toArray, List.set_cons_zero, List.set_cons_succ]
  refine wpAnyH_take (i := 26) (oi := { dst := some 56, op := _, type := _, pos := _, after := _, guard := _ }) (v := ?_) rfl (by kernel_rfl) (by kernel_rfl) (by kernel_rfl) (fun _ _ _ h => h) (Or.inl ⟨by rfl, ?_⟩) hHeld ?_
  rotate_left
  · (intro w hSw; have cu := (HK1.out _ hSw).2; have u0 := cu 0; have u1 := cu 1; have cx := (HK2.out _ hSw).2; have x0 := cx 0; have ck := (HK.out _ hSw).2; have k0 := ck 0; have k1 := ck 1; simp at u0 u1 x0 k0 k1; clear cu cx ck; go_simp <;> with_reducible rfl)
  try simp only [Act.put, List.setIfInBounds_toArray, List.set_cons_zero, List.set_cons_succ]
  refine wpAnyH_take (i := 27) (oi := { dst := some 57, op := _, type := _, pos := _, after := _, guard := _ }) (v := ?_) rfl (by kernel_rfl) (by kernel_rfl) (by kernel_rfl) (fun _ _ _ h => h) (Or.inl ⟨by rfl, ?_⟩) hHeld ?_
  rotate_left
  · (intro w hSw; have cu := (HK1.out _ hSw).2; have u0 := cu 0; have u1 := cu 1; have cx := (HK2.out _ hSw).2; have x0 := cx 0; have ck := (HK.out _ hSw).2; have k0 := ck 0; have k1 := ck 1; simp at u0 u1 x0 k0 k1; clear cu cx ck; go_simp <;> with_reducible rfl)
  try simp only [Act.put, List.setIfInBounds_toArray, List.set_cons_zero, List.set_cons_succ]
  refine wpAnyH_done (by kernel_rfl) ?_ _
  have hBf := hB.trans (hHeld.mono hszU)
  have hK1 := HK1.out _ hHeld
  have hK2 := HK2.out _ hHeld
  have HT := Lib.hid (HR0.out _ hHeld)
  have hsM := HM0.out _ hHeld
  clear HK1 HK2 HK HR0 HM0
  obtain ⟨hK1_l, hK1_c⟩ := id hK1
  have hK1_0 := hK1_c 0
  have hK1_1 := hK1_c 1
  simp at hK1_0 hK1_1
  clear hK1_c
  obtain ⟨hK2_l, hK2_c⟩ := id hK2
  have hK2_0 := hK2_c 0
  have hK2_1 := hK2_c 1
  have hK2_2 := hK2_c 2
  simp at hK2_0 hK2_1 hK2_2
  clear hK2_c
  go_wp2_with fail
  refine (HP1.out _ HT.out.1 HT.out.2).mono ?_
  rintro e y1 ⟨⟨m1, X1, d1, rfl, hsN, htN, _⟩, hb⟩
  have hBf := since_step hBf hb
  have hK1 := hK1.below hb
  have hK2 := hK2.below hb
  have HT := Lib.hid (And.intro (HT.out.1.below hb) (HT.out.2.below hb))
  have hsM := hsM.below hb
  clear hb
  clear hK1_l hK1_0 hK1_1 hK2_l hK2_0 hK2_1 hK2_2
  have HR1 := Lib.hid (And.intro hsN htN)
  clear hsN htN
  obtain ⟨hK1_l, hK1_c⟩ := id hK1
  have hK1_0 := hK1_c 0
  have hK1_1 := hK1_c 1
  simp at hK1_0 hK1_1
  clear hK1_c
  obtain ⟨hK2_l, hK2_c⟩ := id hK2
  have hK2_0 := hK2_c 0
  have hK2_1 := hK2_c 1
  have hK2_2 := hK2_c 2
  simp at hK2_0 hK2_1 hK2_2
  clear hK2_c
  go_wp2_with fail
  refine (HP2.out _ HT.out.1 HT.out.2).mono ?_
  rintro e y2 ⟨⟨m2, X2, d2, rfl, hsN, htN, _⟩, hb⟩
  have hBf := since_step hBf hb
  have hK1 := hK1.below hb
  have hK2 := hK2.below hb
  have HT := Lib.hid (And.intro (HT.out.1.below hb) (HT.out.2.below hb))
  have hsM := hsM.below hb
  have HR1 := Lib.hid (And.intro (HR1.out.1.below hb) (HR1.out.2.below hb))
  clear hb
  clear hK1_l hK1_0 hK1_1 hK2_l hK2_0 hK2_1 hK2_2
  have HR2 := Lib.hid (And.intro hsN htN)
  clear hsN htN
  obtain ⟨hK1_l, hK1_c⟩ := id hK1
  have hK1_0 := hK1_c 0
  have hK1_1 := hK1_c 1
  simp at hK1_0 hK1_1
  clear hK1_c
  obtain ⟨hK2_l, hK2_c⟩ := id hK2
  have hK2_0 := hK2_c 0
  have hK2_1 := hK2_c 1
  have hK2_2 := hK2_c 2
  simp at hK2_0 hK2_1 hK2_2
  clear hK2_c
  go_wp2_with fail
  refine (HT1.out _ HT.out.1 HT.out.2).mono ?_
  rintro e y3 ⟨⟨m3, X3, d3, rfl, hsN, htN, _⟩, hb⟩
  have hBf := since_step hBf hb
  have hK1 := hK1.below hb
  have hK2 := hK2.below hb
  have HT := Lib.hid (And.intro (HT.out.1.below hb) (HT.out.2.below hb))
  have hsM := hsM.below hb
  have HR1 := Lib.hid (And.intro (HR1.out.1.below hb) (HR1.out.2.below hb))
  have HR2 := Lib.hid (And.intro (HR2.out.1.below hb) (HR2.out.2.below hb))
  clear hb
  clear hK1_l hK1_0 hK1_1 hK2_l hK2_0 hK2_1 hK2_2
  have HR3 := Lib.hid (And.intro hsN htN)
  clear hsN htN
  obtain ⟨hK1_l, hK1_c⟩ := id hK1
  have hK1_0 := hK1_c 0
  have hK1_1 := hK1_c 1
  simp at hK1_0 hK1_1
  clear hK1_c
  obtain ⟨hK2_l, hK2_c⟩ := id hK2
  have hK2_0 := hK2_c 0
  have hK2_1 := hK2_c 1
  have hK2_2 := hK2_c 2
  simp at hK2_0 hK2_1 hK2_2
  clear hK2_c
  go_wp2_with fail
  refine (HT2.out _ HT.out.1 HT.out.2).mono ?_
  rintro e y4 ⟨⟨m4, X4, d4, rfl, hsN, htN, _⟩, hb⟩
  have hBf := since_step hBf hb
  have hK1 := hK1.below hb
  have hK2 := hK2.below hb
  have HT := Lib.hid (And.intro (HT.out.1.below hb) (HT.out.2.below hb))
  have hsM := hsM.below hb
  have HR1 := Lib.hid (And.intro (HR1.out.1.below hb) (HR1.out.2.below hb))
  have HR2 := Lib.hid (And.intro (HR2.out.1.below hb) (HR2.out.2.below hb))
  have HR3 := Lib.hid (And.intro (HR3.out.1.below hb) (HR3.out.2.below hb))
  clear hb
  clear hK1_l hK1_0 hK1_1 hK2_l hK2_0 hK2_1 hK2_2
  have HR4 := Lib.hid (And.intro hsN htN)
  clear hsN htN
  obtain ⟨hK1_l, hK1_c⟩ := id hK1
  have hK1_0 := hK1_c 0
  have hK1_1 := hK1_c 1
  simp at hK1_0 hK1_1
  clear hK1_c
  obtain ⟨hK2_l, hK2_c⟩ := id hK2
  have hK2_0 := hK2_c 0
  have hK2_1 := hK2_c 1
  have hK2_2 := hK2_c 2
  simp at hK2_0 hK2_1 hK2_2
  clear hK2_c
  go_wp2_with fail
  refine (HS1.out _ HT.out.1 HT.out.2 hsM).mono ?_
  rintro e y5 ⟨⟨m5, X5, d5, rfl, hsN, htN, _⟩, hb⟩
  have hBf := since_step hBf hb
  have hK1 := hK1.below hb
  have hK2 := hK2.below hb
  have HT := Lib.hid (And.intro (HT.out.1.below hb) (HT.out.2.below hb))
  have hsM := hsM.below hb
  have HR1 := Lib.hid (And.intro (HR1.out.1.below hb) (HR1.out.2.below hb))
  have HR2 := Lib.hid (And.intro (HR2.out.1.below hb) (HR2.out.2.below hb))
  have HR3 := Lib.hid (And.intro (HR3.out.1.below hb) (HR3.out.2.below hb))
  have HR4 := Lib.hid (And.intro (HR4.out.1.below hb) (HR4.out.2.below hb))
  clear hb
  clear hK1_l hK1_0 hK1_1 hK2_l hK2_0 hK2_1 hK2_2
  have HR5 := Lib.hid (And.intro hsN htN)
  clear hsN htN
  obtain ⟨hK1_l, hK1_c⟩ := id hK1
  have hK1_0 := hK1_c 0
  have hK1_1 := hK1_c 1
  simp at hK1_0 hK1_1
  clear hK1_c
  obtain ⟨hK2_l, hK2_c⟩ := id hK2
  have hK2_0 := hK2_c 0
  have hK2_1 := hK2_c 1
  have hK2_2 := hK2_c 2
  simp at hK2_0 hK2_1 hK2_2
  clear hK2_c
  go_wp2_with fail
  refine (HS2.out _ HT.out.1 HT.out.2 hsM).mono ?_
  rintro e y6 ⟨⟨m6, X6, d6, rfl, hsN, htN, _⟩, hb⟩
  have hBf := since_step hBf hb
  have hK1 := hK1.below hb
  have hK2 := hK2.below hb
  have HT := Lib.hid (And.intro (HT.out.1.below hb) (HT.out.2.below hb))
  have hsM := hsM.below hb
  have HR1 := Lib.hid (And.intro (HR1.out.1.below hb) (HR1.out.2.below hb))
  have HR2 := Lib.hid (And.intro (HR2.out.1.below hb) (HR2.out.2.below hb))
  have HR3 := Lib.hid (And.intro (HR3.out.1.below hb) (HR3.out.2.below hb))
  have HR4 := Lib.hid (And.intro (HR4.out.1.below hb) (HR4.out.2.below hb))
  have HR5 := Lib.hid (And.intro (HR5.out.1.below hb) (HR5.out.2.below hb))
  clear hb
  clear hK1_l hK1_0 hK1_1 hK2_l hK2_0 hK2_1 hK2_2
  have HR6 := Lib.hid (And.intro hsN htN)
  clear hsN htN
  clear hK1 hK2 HT hsM
  go_wp2_with fail
  refine (HSP.out _ _ _ _ _ _ _ HR1.out.1 HR1.out.2 HR2.out.1 HR2.out.2).mono ?_
  rintro e y7 ⟨rfl, hb⟩
  have hBf := since_step hBf hb
  have HR1 := Lib.hid (And.intro (HR1.out.1.below hb) (HR1.out.2.below hb))
  have HR2 := Lib.hid (And.intro (HR2.out.1.below hb) (HR2.out.2.below hb))
  have HR3 := Lib.hid (And.intro (HR3.out.1.below hb) (HR3.out.2.below hb))
  have HR4 := Lib.hid (And.intro (HR4.out.1.below hb) (HR4.out.2.below hb))
  have HR5 := Lib.hid (And.intro (HR5.out.1.below hb) (HR5.out.2.below hb))
  have HR6 := Lib.hid (And.intro (HR6.out.1.below hb) (HR6.out.2.below hb))
  clear hb
  clear HR1 HR2
  go_wp2_with fail
  refine (HST.out _ _ _ _ _ _ _ HR3.out.1 HR3.out.2 HR4.out.1 HR4.out.2).mono ?_
  rintro e y8 ⟨rfl, hb⟩
  have hBf := since_step hBf hb
  have HR3 := Lib.hid (And.intro (HR3.out.1.below hb) (HR3.out.2.below hb))
  have HR4 := Lib.hid (And.intro (HR4.out.1.below hb) (HR4.out.2.below hb))
  have HR5 := Lib.hid (And.intro (HR5.out.1.below hb) (HR5.out.2.below hb))
  have HR6 := Lib.hid (And.intro (HR6.out.1.below hb) (HR6.out.2.below hb))
  clear hb
  clear HR3 HR4
  go_wp2_with fail
  refine (HSS.out _ _ _ _ _ _ _ HR5.out.1 HR5.out.2 HR6.out.1 HR6.out.2).mono ?_
  rintro e y9 ⟨rfl, hb⟩
  have hBf := since_step hBf hb
  have HR5 := Lib.hid (And.intro (HR5.out.1.below hb) (HR5.out.2.below hb))
  have HR6 := Lib.hid (And.intro (HR6.out.1.below hb) (HR6.out.2.below hb))
  clear hb
  clear HR5 HR6
  go_wp2_with fail
  refine (HLV.out _).mono ?_
  rintro e y10 ⟨rfl, hb⟩
  have hBf := since_step hBf hb
  clear hb
  go_wp2_with fail
  go_ret
  exact ⟨rfl, hBf⟩
end Go.Proofs.Ytldnponbkhgijaa
end
