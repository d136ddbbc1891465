import Derived.Test.YtldnponbkhgijaaHK03
import Derived.Test.YtldnponbkhgijaaHK04
import Derived.Test.YtldnponbkhgijaaHK05
section
namespace Go.Proofs.Ytldnponbkhgijaa
open Go.ChangeShapes Go.WideShapes Go.ChangeAt Go.RowKit
set_option linter.unusedVariables false
set_option linter.unusedSimpArgs false

theorem rd_ltrowH {w : World} {r : List Value} (h : Rd w (.cat (.int .i64) (.cat (.int .i64) (.cat (.int .i64) .nil))) r) : ∃ g : Lt, r = g.cells ∧ In64 g.qty := by
  obtain ⟨p, q, rfl, ⟨a, rfl, _⟩, ⟨p2, q2, rfl, ⟨b, rfl, _⟩, ⟨p3, q3, rfl, ⟨c, rfl, hc⟩, rfl⟩⟩⟩ := h
  exact ⟨⟨a, b, c⟩, rfl, bd_i64 hc⟩
def InH (w : World) (g : Hd) : Prop := ∃ L : List Lt, g.ltL = L.length ∧ L.length ≤ g.ltC ∧ g.ltC ≤ maxLen ∧ Sl w g.lt (rc Lt.cells L) ∧ ∀ y ∈ L, In64 y.qty
theorem rd_hold {w : World} {r : List Value} (h : Rd w (.cat (.cat (.int .i64) (.cat (.int .i64) .nil)) (.cat (.sl (.cat (.int .i64) (.cat (.int .i64) (.cat (.int .i64) .nil)))) .nil)) r) : ∃ g : Hd, r = g.cells ∧ InH w g := by
  obtain ⟨p, q, rfl, ⟨p1, q1, rfl, ⟨a, rfl, _⟩, ⟨p2, q2, rfl, ⟨c, rfl, _⟩, rfl⟩⟩, ⟨p3, q3, rfl, h4, rfl⟩⟩ := h
  obtain ⟨A, n, k, rows, rfl, h1, h2, h3, h5, h6⟩ := _root_.id h4
  obtain ⟨L, rfl, _, _, hs, hq⟩ := rd_rowsP (f := Lt.cells) (fun r => rd_ltrowH) h4
  exact ⟨⟨a, c, A, L.length, k⟩, rfl, L, rfl, h1, h2, hs, hq⟩
def GoodH (cs : List Hc) : Prop := (∀ g ∈ cs, g.L.length ≤ 20) ∧ ∀ g ∈ cs, ∀ y ∈ g.L, In64 y.qty
def FewH (w' : World) (e : Ending) : Prop :=
  ∃ (R : List Hd) (cs : List Hc) (A' : Option Addr) (c' : Nat), e = .returned (.slice A' R.length c') ∧ Sl w' A' (rc Hd.cells R) ∧ HdTab w' R cs ∧ CapH A' R.length c' ∧ R.length ≤ 10 ∧ GoodH cs
def FRel26 (n : Nat) (w : World) (out i : Value) (wr : World) : Prop :=
  ∃ (k : Nat) (R : List Hd) (cs : List Hc) (A' : Option Addr) (c' : Nat), k ≤ n ∧ k ≤ 10 ∧ i = .int .i64 k ∧ out = .slice A' R.length c' ∧ R.length ≤ k ∧ wr.ownsRow w.heap.size 169 3 (.slice A' R.length c') R.length (rc Hd.cells R) ∧ HdTab w R cs ∧ GoodH cs ∧ Below w.heap.size w wr
set_option maxHeartbeats 4000000 in
set_option maxRecDepth 100000 in
theorem few26_any (A : Option Addr) (cap : Nat) (l : List Hd) (w : World) (hs : Sl w A (rc Hd.cells l)) (hd : ∀ g ∈ l, InH w g) :
    Calls Try.prog 56 #[.slice A l.length cap] w fun e w' => FewH w' e ∧ Below w.heap.size w w' := by
  go_enter Try.func56, Try.ntmps56
  go_wp2_with fail
  go_loopw [3, 4] (fun out i wr => FRel26 l.length w out i wr) (fun _ i _ => l.length - (intOf i).toNat)
  case atStart => exact ⟨0, [], [], none, 0, by omega, by omega, rfl, rfl, by simp, own_nil _ _ _, HdTab.nil _, ⟨(fun g h => by cases h), (fun g h => by cases h)⟩, Below.refl _ _⟩
  case round =>
    obtain ⟨k, R, cs, A', c', hk, hk10, rfl, rfl, hRk, hown, htb, hgd, hB⟩ := hrel
    by_cases hgo : k < l.length ∧ k < 10
    · obtain ⟨hlt, hlt10⟩ := hgo
      obtain ⟨b, o, rfl, hbw, hg⟩ := hs.hd hlt
      obtain ⟨L, e1, e2, e3, e4, e5⟩ := hd l[k] (List.getElem_mem hlt)
      have hlk : (k : Int) < (l.length : Int) := by omega
      have hlk10 : (k : Int) < 10 := by omega
      have hge : (0 : Int) ≤ (k : Int) := by omega
      have HG : Hid (∀ V, Below w.heap.size w V → l[k].at V b (o + k * 3)) := Lib.hid fun V hV => Hd.at_keep hg fun i => hV.cell (p := ⟨b, i, none⟩) hbw
      clear hg
      generalize l[k] = v at *
      obtain ⟨va, vc, vt, vL, vC⟩ := v
      simp only at e1 e2 e3 e4
      subst e1
      unfold Hd.at at HG
      simp only at HG
      have HFW := Lib.hid (fun V h => few18_any vt vC L V e2 e3 h)
      have HSG : Hid (∀ V, Below w.heap.size w V → Sl V vt (rc Lt.cells L)) := Lib.hid fun V hV => e4.below hV
      have hT : Sl w vt (rc Lt.cells (L.take 20)) := by
        have h := e4.take (20 * 3)
        rw [rc_take Lt.len] at h
        exact h
      have ht20 : (L.take 20).length ≤ 20 := by simp; omega
      have hq20 : ∀ y ∈ L.take 20, In64 y.qty := fun y hy => e5 y (List.mem_of_mem_take hy)
      have HTN : Hid (HdTab w (R ++ [⟨va, vc, vt, (L.take 20).length, vC⟩]) (cs ++ [⟨va, vc, L.take 20⟩])) := Lib.hid (htb.app ⟨rfl, rfl, rfl, hT⟩)
      have HGN : Hid (GoodH (cs ++ [⟨va, vc, L.take 20⟩])) := Lib.hid ⟨fun g hg => by
        rcases List.mem_append.1 hg with hg | hg
        · exact hgd.1 g hg
        · rw [List.mem_singleton.1 hg]; exact ht20, fun g hg => by
        rcases List.mem_append.1 hg with hg | hg
        · exact hgd.2 g hg
        · rw [List.mem_singleton.1 hg]; exact hq20⟩
      clear hd hs e2 e3 e4 e5 hT ht20 hq20 htb hgd
      generalize L.take 20 = M at *
      go_wp2_with fail
      refine wp_region_held_drew (S := (fun V => Below w.heap.size w V)) (by kernel_rfl) (by exact hB.drew) (fun hHeld => ?_)
      refine wpAnyH_take (i := 0) (oi := { dst := some 15, op := _, type := _, pos := _, after := _, guard := _ }) (v := ?_) rfl (by kernel_rfl) (by kernel_rfl) (by kernel_rfl) (fun _ _ _ h => h) (Or.inl ⟨by rfl, ?_⟩) hHeld ?_
      rotate_left
      · (intro w hSw; obtain ⟨g0, g1, g2⟩ := HG.out _ hSw; go_simp <;> with_reducible rfl)
      try simp only [Act.put, List.setIfInBounds_toArray, List.set_cons_zero, List.set_cons_succ]
      refine wpAnyH_take (i := 1) (oi := { dst := some 16, op := _, type := _, pos := _, after := _, guard := _ }) (v := ?_) rfl (by kernel_rfl) (by kernel_rfl) (by kernel_rfl) (fun _ _ _ h => h) (Or.inl ⟨by rfl, ?_⟩) hHeld ?_
      rotate_left
      · (intro w hSw; obtain ⟨g0, g1, g2⟩ := HG.out _ hSw; go_simp <;> with_reducible rfl)
      try simp only [Act.put, List.setIfInBounds_toArray, List.set_cons_zero, List.set_cons_succ]
      refine wpAnyH_take (i := 2) (oi := { dst := some 17, op := _, type := _, pos := _, after := _, guard := _ }) (v := ?_) rfl (by kernel_rfl) (by kernel_rfl) (by kernel_rfl) (fun _ _ _ h => h) (Or.inl ⟨by rfl, ?_⟩) hHeld ?_
      rotate_left
      · (intro w hSw; obtain ⟨g0, g1, g2⟩ := HG.out _ hSw; go_simp <;> with_reducible rfl)
      try simp only [Act.put, List.setIfInBounds_toArray, List.set_cons_zero, List.set_cons_succ]
      refine wpAnyH_take (i := 3) (oi := { dst := some 18, op := _, type := _, pos := _, after := _, guard := _ }) (v := ?_) rfl (by kernel_rfl) (by kernel_rfl) (by kernel_rfl) (fun _ _ _ h => h) (Or.inl ⟨by rfl, ?_⟩) hHeld ?_
      rotate_left
      · (intro w hSw; obtain ⟨g0, g1, g2⟩ := HG.out _ hSw; go_simp <;> with_reducible rfl)
      try simp only [Act.put, List.setIfInBounds_toArray, List.set_cons_zero, List.set_cons_succ]
      refine wpAnyH_take (i := 4) (oi := { dst := some 19, op := _, type := _, pos := _, after := _, guard := _ }) (v := ?_) rfl (by kernel_rfl) (by kernel_rfl) (by kernel_rfl) (fun _ _ _ h => h) (Or.inl ⟨by rfl, ?_⟩) hHeld ?_
      rotate_left
      · (intro w hSw; obtain ⟨g0, g1, g2⟩ := HG.out _ hSw; go_simp <;> with_reducible rfl)
      try simp only [Act.put, List.setIfInBounds_toArray, List.set_cons_zero, List.set_cons_succ]
      refine wpAnyH_take (i := 5) (oi := { dst := some 20, op := _, type := _, pos := _, after := _, guard := _ }) (v := ?_) rfl (by kernel_rfl) (by kernel_rfl) (by kernel_rfl) (fun _ _ _ h => h) (Or.inl ⟨by rfl, ?_⟩) hHeld ?_
      rotate_left
      · (intro w hSw; obtain ⟨g0, g1, g2⟩ := HG.out _ hSw; go_simp <;> with_reducible rfl)
      try simp only [Act.put, List.setIfInBounds_toArray, List.set_cons_zero, List.set_cons_succ]
      refine wpAnyH_take (i := 6) (oi := { dst := some 21, op := _, type := _, pos := _, after := _, guard := _ }) (v := ?_) rfl (by kernel_rfl) (by kernel_rfl) (by kernel_rfl) (fun _ _ _ h => h) (Or.inl ⟨by rfl, ?_⟩) hHeld ?_
      rotate_left
      · (intro w hSw; obtain ⟨g0, g1, g2⟩ := HG.out _ hSw; go_simp <;> with_reducible rfl)
      try simp only [Act.put, List.setIfInBounds_toArray, List.set_cons_zero, List.set_cons_succ]
      refine wpAnyH_take (i := 7) (oi := { dst := some 22, op := _, type := _, pos := _, after := _, guard := _ }) (v := ?_) rfl (by kernel_rfl) (by kernel_rfl) (by kernel_rfl) (fun _ _ _ h => h) (Or.inl ⟨by rfl, ?_⟩) hHeld ?_
      rotate_left
      · (intro w hSw; obtain ⟨g0, g1, g2⟩ := HG.out _ hSw; go_simp <;> with_reducible rfl)
      try simp only [Act.put, List.setIfInBounds_toArray, List.set_cons_zero, List.set_cons_succ]
      refine wpAnyH_take (i := 8) (oi := { dst := some 23, op := _, type := _, pos := _, after := _, guard := _ }) (v := ?_) rfl (by kernel_rfl) (by kernel_rfl) (by kernel_rfl) (fun _ _ _ h => h) (Or.inl ⟨by rfl, ?_⟩) hHeld ?_
      rotate_left
      · (intro w hSw; obtain ⟨g0, g1, g2⟩ := HG.out _ hSw; go_simp <;> with_reducible rfl)
      try simp only [Act.put, List.setIfInBounds_toArray, List.set_cons_zero, List.set_cons_succ]
      refine wpAnyH_take (i := 9) (oi := { dst := some 24, op := _, type := _, pos := _, after := _, guard := _ }) (v := ?_) rfl (by kernel_rfl) (by kernel_rfl) (by kernel_rfl) (fun _ _ _ h => h) (Or.inl ⟨by rfl, ?_⟩) hHeld ?_
      rotate_left
      · (intro w hSw; obtain ⟨g0, g1, g2⟩ := HG.out _ hSw; go_simp <;> with_reducible rfl)
      try simp only [Act.put, List.setIfInBounds_toArray, List.set_cons_zero, List.set_cons_succ]
      refine wpAnyH_take (i := 10) (oi := { dst := some 25, op := _, type := _, pos := _, after := _, guard := _ }) (v := ?_) rfl (by kernel_rfl) (by kernel_rfl) (by kernel_rfl) (fun _ _ _ h => h) (Or.inl ⟨by rfl, ?_⟩) hHeld ?_
      rotate_left
      · (intro w hSw; obtain ⟨g0, g1, g2⟩ := HG.out _ hSw; go_simp <;> with_reducible rfl)
      try simp only [Act.put, List.setIfInBounds_toArray, List.set_cons_zero, List.set_cons_succ]
      refine wpAnyH_ready (rs := [11]) (by kernel_rfl) (by simp) ?_
      refine AllReadyH.cons (o := { dst := some 26, op := _, type := _, pos := _, after := _, guard := _ }) rfl (fun K hK => ?_) AllReadyH.nil
      go_simp
      refine (HFW.out _ (HSG.out _ hHeld)).mono ?_
      rintro e u1 ⟨rfl, hk1⟩
      have hKeep := since_step hHeld hk1
      have ho1 := own_below (own_below hown ((Below.refl _ _).drew)) hk1
      go_wp2_with fail
      refine hK.out _ _ (by (try dsimp only); exact hKeep) (fun hHeld => ?_)
      clear hK K hKeep
      try simp only [Act.put, List.setIfInBounds_toArray, List.set_cons_zero, List.set_cons_succ]
      refine wpAnyH_take (i := 12) (oi := { dst := some 27, op := _, type := _, pos := _, after := _, guard := _ }) (v := ?_) rfl (by kernel_rfl) (by kernel_rfl) (by kernel_rfl) (fun _ _ _ h => h) (Or.inl ⟨by rfl, ?_⟩) hHeld ?_
      rotate_left
      · (intro w hSw; obtain ⟨g0, g1, g2⟩ := HG.out _ hSw; go_simp <;> with_reducible rfl)
      try simp only [Act.put, List.setIfInBounds_toArray, List.set_cons_zero, List.set_cons_succ]
      refine wpAnyH_ready (rs := [13]) (by kernel_rfl) (by simp) ?_
      refine AllReadyH.cons (o := { dst := some 28, op := _, type := _, pos := _, after := _, guard := _ }) rfl (fun K hK => ?_) AllReadyH.nil
      have hHd := hHeld
      obtain ⟨g0, g1, g2⟩ := HG.out _ hHd
      have hKeep := since_alloc hHd (.cells (⟨va, vc, vt, M.length, vC⟩ : Hd).cells.toArray 169)
      have HU := Hd.Bx.new u1 ⟨va, vc, vt, M.length, vC⟩
      have hown1 := World.ownsRow.alloc (w := u1) ho1 (.cells (⟨va, vc, vt, M.length, vC⟩ : Hd).cells.toArray 169)
      skip
      go_simp
      refine hK.out _ _ (by (try dsimp only); exact hKeep) (fun hHeld => ?_)
      clear hK K hKeep
      try simp only [Act.put, List.setIfInBounds_toArray, List.set_cons_zero, List.set_cons_succ]
      refine wpAnyH_ready (rs := [14]) (by kernel_rfl) (by simp) ?_
      refine AllReadyH.cons (o := { dst := some 29, op := _, type := _, pos := _, after := _, guard := _ }) rfl (fun K hK => ?_) AllReadyH.nil
      refine step_app rfl (.tmp 15) (.tmp 28) rfl EHd (n := R.length) (m := 1) (c := c') (d := 1) (A := A') (B := some ⟨u1.heap.size, 0, none⟩) (by simp [Act.eval, Act.put]; done) (by simp [Act.eval, Act.put]; done) hown1 (by rw [Hd.len]) HU.sl (Hd.one _) (by unfold maxLen; omega) (by omega) hHeld.size ?_
      intro A2 c2 u2 hown2 hg2 hb2
      have hKeep := hHeld.trans hb2
      refine hK.out _ _ (by (try dsimp only); exact hKeep) (fun hHeld => ?_)
      clear hK K hKeep
      try simp only [Act.put, List.setIfInBounds_toArray, List.set_cons_zero, List.set_cons_succ]
      refine wpAnyH_take (i := 15) (oi := { dst := some 3, op := _, type := _, pos := _, after := _, guard := _ }) (v := ?_) rfl (by kernel_rfl) (by kernel_rfl) (by kernel_rfl) (fun _ _ _ h => h) (Or.inl ⟨by rfl, ?_⟩) hHeld ?_
      rotate_left
      · (intro w hSw; obtain ⟨g0, g1, g2⟩ := HG.out _ hSw; go_simp <;> with_reducible rfl)
      try simp only [Act.put, List.setIfInBounds_toArray, List.set_cons_zero, List.set_cons_succ]
      refine wpAnyH_done (by kernel_rfl) ?_ _
      have hB2 := hHeld
      go_wp2_with fail
      go_roundw
      case rel =>
        refine ⟨k + 1, R ++ [⟨va, vc, vt, M.length, vC⟩], cs ++ [⟨va, vc, M⟩], A2, c2, by omega, by omega, by go_num, by simp, by simp; omega, ?_, HTN.out, HGN.out, hB2⟩
        rw [rc_append]; simpa [rc] using hown2
      case measure => simp [intOf]; omega
    · have hend : ¬ ((k : Int) < (l.length : Int)) ∨ ((k : Int) < (l.length : Int) ∧ ¬ ((k : Int) < 10)) := by omega
      clear hgo
      rcases hend with h1 | ⟨h1, h2⟩
      all_goals
        go_wp2_with fail
        go_ret
        exact ⟨⟨R, cs, A', c', rfl, Sl.of_own hown, htb.below hB, CapH.of_own hown, by omega, hgd⟩, hB⟩
end Go.Proofs.Ytldnponbkhgijaa
end
section
namespace Go.Proofs.Ytldnponbkhgijaa
open Go.ChangeShapes Go.WideShapes Go.ChangeAt Go.RowKit
set_option linter.unusedVariables false
set_option linter.unusedSimpArgs false

theorem InH.below {w w' : World} {g : Hd} (h : InH w g) (hb : Below w.heap.size w w') : InH w' g := by
  obtain ⟨L, h1, h2, h3, h4, h5⟩ := h
  exact ⟨L, h1, h2, h3, h4.below hb, h5⟩
theorem rd_lt3 {w : World} {a : Array Value} (h : Rd w (.cat (.int .i64) (.cat (.int .i64) (.cat (.int .i64) .nil))) a.toList) : ∃ x y z : Int, a = #[.int .i64 x, .int .i64 y, .int .i64 z] ∧ In64 z := by
  obtain ⟨p, q, e, ⟨x, rfl, _⟩, ⟨p2, q2, rfl, ⟨y, rfl, _⟩, ⟨p3, q3, rfl, ⟨z, rfl, wz⟩, rfl⟩⟩⟩ := h
  refine ⟨x, y, z, ?_, bd_i64 wz⟩
  cases a
  simpa using e
theorem live26a : chgHR (fun m => putLR m ⟨1, 0, 5⟩) [] 1 0 = (0, [⟨1, 0, [⟨1, 0, 5⟩]⟩]) := by
  rw [chgHR_ok (L := [⟨1, 0, 5⟩]) rfl (put_can rfl (by decide) (by show In64 (0 + 5); unfold In64; omega) (by simp; try decide))]
  rfl
theorem live26b : moveHR [⟨1, 0, [⟨1, 0, 5⟩]⟩] 1 0 2 0 = (0, [⟨2, 0, [⟨1, 0, 5⟩]⟩]) := by decide
set_option maxHeartbeats 4000000 in
set_option maxRecDepth 100000 in
theorem lives26_any (w : World) : Calls Try.prog 72 #[] w fun e w' => e = .returned (.bool true) ∧ Below w.heap.size w w' := by
  have HP := Lib.hid (fun V => hput_any none 0 [] [] 1 0 1 0 5 V (by simp) (fun g h => by cases h) (by unfold In64; omega) (fun g h => by cases h) Sl.nil (HdTab.nil V))
  have HM := Lib.hid (fun A c l V hl h1 h2 => hmove_any A c l [⟨1, 0, [⟨1, 0, 5⟩]⟩] 1 0 2 0 V hl (by simp) h1 h2)
  have HL1 := Lib.hid (fun A c l V hl h1 h2 => hlots_any A c l [⟨2, 0, [⟨1, 0, 5⟩]⟩] 2 0 V hl (by simp) h1 h2)
  have HL2 := Lib.hid (fun A c l V hl h1 h2 => hlots_any A c l [⟨2, 0, [⟨1, 0, 5⟩]⟩] 1 0 V hl (by simp) h1 h2)
  rw [show lotsH [⟨2, 0, [⟨1, 0, 5⟩]⟩] 2 0 = [⟨1, 0, 5⟩] from rfl] at HL1
  rw [show lotsH [⟨2, 0, [⟨1, 0, 5⟩]⟩] 1 0 = [] from rfl] at HL2
  rw [live26a] at HP
  rw [live26b] at HM
  have HSA := Lib.hid (fun A c A2 W h1 h2 => rlsame_any_self A A2 c 1 [⟨1, 0, 5⟩] W (by decide) h1 h2)
  unfold HRes at HP HM
  simp only [List.length_cons, List.length_nil] at HP HL1 HL2 HSA
  have hB0 := since_alloc (since_alloc (Below.refl _ w) (.cells #[.int .i64 1, .int .i64 0] 24)) (.cells #[.int .i64 2, .int .i64 0] 24)
  have hK1 := (Bk.new w #[.int .i64 1, .int .i64 0] 24).alloc (.cells #[.int .i64 2, .int .i64 0] 24)
  have hK2 := Bk.new (w.alloc (.cells #[.int .i64 1, .int .i64 0] 24)) #[.int .i64 2, .int .i64 0] 24
  rw [World.size_alloc] at hK2
  go_enter Try.func72, Try.ntmps72
  go_wp2_with fail
  refine (HP.out _).mono ?_
  rintro e w1 ⟨⟨l1, A1, c1, rfl, s1, t1, _⟩, hb⟩
  have hB1 := since_step hB0 hb
  have hK1 := hK1.below hb
  have hK2 := hK2.below hb
  have hl1 : l1.length ≤ 800000 := by rw [t1.1]; simp
  have HM2 := Lib.hid (HM.out A1 c1 l1 w1 hl1 s1 t1)
  have ck := hK1.2; have p0 := ck 0; have p1 := ck 1; simp at p0 p1; clear ck
  have ck := hK2.2; have p2 := ck 0; have p3 := ck 1; simp at p2 p3; clear ck
  clear hb s1 t1 hl1
  go_wp2_with fail
  refine HM2.out.mono ?_
  rintro e w2 ⟨⟨l2, A2, c2, rfl, s2, t2, _⟩, hb⟩
  have hB2 := since_step hB1 hb
  have hK1 := hK1.below hb
  have hK2 := hK2.below hb
  have hl2 : l2.length ≤ 900000 := by rw [t2.1]; simp
  have HQ := Lib.hid (And.intro hl2 (And.intro s2 t2))
  have ck := hK1.2; have p0 := ck 0; have p1 := ck 1; simp at p0 p1; clear ck
  have ck := hK2.2; have p2 := ck 0; have p3 := ck 1; simp at p2 p3; clear ck
  clear hb s2 t2 hl2
  go_wp2_with fail
  refine (HL1.out A2 c2 l2 _ HQ.out.1 HQ.out.2.1 HQ.out.2.2).mono ?_
  rintro e w3 ⟨⟨A3, c3, rfl, o3⟩, hb⟩
  have hB3 := since_step hB2 hb
  have hK1 := hK1.below hb
  have HQ := Lib.hid (And.intro HQ.out.1 (And.intro (HQ.out.2.1.below hb) (HQ.out.2.2.below hb)))
  have s3 := Sl.of_own o3
  clear hb hK2 o3
  go_wp2_with fail
  refine (HSA.out _ _ _ _ (s3.alloc _) (Sl.new_ w3 (rc Lt.cells [⟨1, 0, 5⟩]) 93)).mono ?_
  rintro e w4 ⟨rfl, hb⟩
  have hb' := since_step (since_alloc (Below.refl _ w3) (.cells #[.int .i64 1, .int .i64 0, .int .i64 5] 93)) hb
  have hB4 := since_step hB3 hb'
  have hK1 := hK1.below hb'
  have HQ := Lib.hid (And.intro HQ.out.1 (And.intro (HQ.out.2.1.below hb') (HQ.out.2.2.below hb')))
  have ck := hK1.2; have p0 := ck 0; have p1 := ck 1; simp at p0 p1; clear ck
  clear hb hb' s3
  go_wp2_with fail
  refine (HL2.out A2 c2 l2 _ HQ.out.1 HQ.out.2.1 HQ.out.2.2).mono ?_
  rintro e w5 ⟨⟨A5, c5, rfl, o5⟩, hb⟩
  have hB5 := since_step hB4 hb
  go_wp2_with fail
  go_ret
  exact ⟨rfl, hB5⟩
end Go.Proofs.Ytldnponbkhgijaa
end
section
namespace Go.Proofs.Ytldnponbkhgijaa
open Go.ChangeShapes Go.WideShapes Go.ChangeAt Go.RowKit
set_option linter.unusedVariables false
set_option linter.unusedSimpArgs false

theorem sum64_bd {m : List Int} (h : All64 m) : -(m.length : Int) * 9223372036854775808 ≤ m.sum ∧ m.sum ≤ (m.length : Int) * 9223372036854775808 := by
  induction m with
  | nil => simp
  | cons a r ih =>
    have ha := h a (by simp)
    have ih := ih (fun x hx => h x (List.mem_cons_of_mem _ hx))
    unfold In64 at ha
    rw [List.sum_cons, List.length_cons]
    omega
theorem qsL_bd {l : List Lt} {a : Int} (hq : ∀ y ∈ l, In64 y.qty) (hl : l.length ≤ 900000) : -(8301034833169298227200000 : Int) ≤ (qsL l a).sum ∧ (qsL l a).sum ≤ 8301034833169298227200000 := by
  have h := sum64_bd (qsL_in hq a)
  have h2 := qsL_len l a
  omega
theorem qsL_128 {l : List Lt} {a : Int} (hq : ∀ y ∈ l, In64 y.qty) (hl : l.length ≤ 900000) : In128 (qsL l a).sum := by
  have h := qsL_bd (a := a) hq hl
  unfold In128; omega
theorem sums_len (cs : List Hc) (t : Int) : (sumsH cs t).length = cs.length := by simp [sumsH]
theorem sums_in {cs : List Hc} (h6 : ∀ g ∈ cs, ∀ y ∈ g.L, In64 y.qty) (hcl : ∀ g ∈ cs, g.L.length ≤ 900000) (t : Int) : ∀ x ∈ sumsH cs t, In128 x := by
  intro q hq
  obtain ⟨y, hy, rfl⟩ := List.mem_map.1 hq
  exact qsL_128 (h6 y hy) (hcl y hy)
theorem sums_snoc (cs : List Hc) (t : Int) (k : Nat) (h : k < cs.length) : sumsH (cs.take (k + 1)) t = sumsH (cs.take k) t ++ [(qsL cs[k].L t).sum] := by
  unfold sumsH
  rw [take_snoc cs k h, List.map_append]; rfl
theorem sums_128 {cs : List Hc} (h6 : ∀ g ∈ cs, ∀ y ∈ g.L, In64 y.qty) (hcl : ∀ g ∈ cs, g.L.length ≤ 900000) (t : Int) (hl : cs.length ≤ 900000) : In128 (sumsH cs t).sum := by
  have key : ∀ ds : List Hc, (∀ g ∈ ds, ∀ y ∈ g.L, In64 y.qty) → (∀ g ∈ ds, g.L.length ≤ 900000) → -((ds.length : Int) * 8301034833169298227200000) ≤ (sumsH ds t).sum ∧ (sumsH ds t).sum ≤ (ds.length : Int) * 8301034833169298227200000 := by
    intro ds
    induction ds with
    | nil => intro _ _; simp [sumsH]
    | cons g r ih =>
      intro h1 h2
      have i := ih (fun x hx => h1 x (List.mem_cons_of_mem _ hx)) (fun x hx => h2 x (List.mem_cons_of_mem _ hx))
      have b := qsL_bd (a := t) (h1 g (by simp)) (h2 g (by simp))
      have e : (sumsH (g :: r) t).sum = (qsL g.L t).sum + (sumsH r t).sum := by simp [sumsH]
      rw [e, List.length_cons]
      omega
  have h := key cs h6 hcl
  unfold In128
  omega
set_option maxHeartbeats 4000000 in
set_option maxRecDepth 100000 in
theorem htotal_any (A : Option Addr) (cap : Nat) (l : List Hd) (cs : List Hc) (a : Int) (w : World) (hl : l.length ≤ 900000) (hcl : ∀ g ∈ cs, g.L.length ≤ 900000) (h6 : ∀ g ∈ cs, ∀ y ∈ g.L, In64 y.qty) (hs : Sl w A (rc Hd.cells l)) (ht : HdTab w l cs) :
    Calls Try.prog 58 #[.slice A l.length cap, .int .i64 a] w fun e w' => e = .returned (.agg #[.int .i64 (hiN (sumsH cs a).sum), .int .u64 (loN (sumsH cs a).sum)]) ∧ Below w.heap.size w w' := by
  have HLC := Lib.hid ht.1
  have hlcs : cs.length ≤ 900000 := by have := HLC.out; omega
  have HQI := Lib.hid (sums_in h6 hcl a)
  have HQL := Lib.hid (sums_len cs a)
  have H6 := Lib.hid h6
  have HCL := Lib.hid hcl
  have H128 := Lib.hid (sums_128 h6 hcl a hlcs)
  have hB0 := since_alloc (Below.refl _ w) (.cells #[.int .i64 0, .int .u64 0] 28)
  have G0 := T2.new w 0 0 28
  have hs0 := hs.alloc (.cells #[.int .i64 0, .int .u64 0] 28)
  have ht0 := ht.below hB0
  clear hs h6 hcl ht
  go_enter Try.func58, Try.ntmps58
  go_upto_region 1 with fail
  generalize hWW : w.alloc (.cells #[.int .i64 0, .int .u64 0] 28) = W at *
  have ht0 : HdTab W l cs := ht0
  clear hWW
  have hWs := hB0.size
  go_wp2_with (first
    | (at_make; refine wpList_mk rfl (.const (.int .i64 0)) (.tmp 11) rfl EWd l.length rfl rfl rfl (by omega) (by unfold maxLen; omega) (Nat.le_refl _) ?_; intro W2 hownW hbW)
    | fail)
  go_loopw [5, 15] (fun out i wr => ∃ (k : Nat) (A' : Option Addr) (c' : Nat), k ≤ l.length ∧ i = .int .i64 k ∧ out = .slice A' (sumsH (cs.take k) a).length c' ∧ wr.ownsRow W.heap.size 28 2 (.slice A' (sumsH (cs.take k) a).length c') (sumsH (cs.take k) a).length (wcells (sumsH (cs.take k) a)) ∧ Below W.heap.size W wr) (fun _ i _ => l.length - (intOf i).toNat)
  case atStart => exact ⟨0, _, _, by omega, rfl, rfl, by simpa [sumsH, wcells] using hownW, hbW⟩
  case round =>
    obtain ⟨k, A', c', hk, rfl, rfl, hown, hB⟩ := hrel
    clear hownW hbW
    by_cases hlt : k < l.length
    · have hlc : k < cs.length := HLC.out ▸ hlt
      obtain ⟨b, o, rfl, hbw, hg⟩ := (hs0.below hB).hd hlt
      have hI := (ht0.below hB).2 k hlt hlc
      have hlk : (k : Int) < (l.length : Int) := by omega
      have hge : (0 : Int) ≤ (k : Int) := by omega
      have HN := Lib.hid (sums_snoc cs a k hlc)
      have hq6 := H6.out _ (List.getElem_mem hlc)
      have hm := HCL.out _ (List.getElem_mem hlc)
      have hrl : (sumsH (cs.take k) a).length ≤ k := by rw [sums_len, List.length_take]; omega
      generalize l[k] = v at *
      generalize cs[k] = d at *
      obtain ⟨va, vc, vt, vL, vC⟩ := v
      obtain ⟨da, dc, dL⟩ := d
      obtain ⟨i0, i1, i2, i3⟩ := hI
      simp only at i0 i1 i2 i3 hm hq6
      subst i0; subst i1; subst i2
      have HN := Lib.hid HN.out
      simp only at HN
      obtain ⟨g0, g1, g2⟩ := hg
      simp only at g0 g1 g2
      obtain ⟨R, hR⟩ : ∃ R, sumsH (cs.take k) a = R := ⟨_, rfl⟩
      rw [hR] at hown HN hrl ⊢
      clear hR
      obtain ⟨vq, hvq⟩ : ∃ q, (qsL dL a).sum = q := ⟨_, rfl⟩
      have HSU := Lib.hid (lsum_any vt vC dL a _ hm hq6 (i3.alloc (.cells #[.int .i64 va, .int .i64 vc, .slice vt dL.length vC] 169)))
      rw [hvq] at HN HSU
      have HE : Hid (sumsH (cs.take (k + 1)) a = R ++ [vq]) := Lib.hid HN.out
      clear HN hvq i3 hq6
      go_wp2_with fail
      refine HSU.out.mono ?_
      rintro e w1 ⟨rfl, hb⟩
      have hv0 := (Below.refl wr.heap.size wr).alloc (Nat.le_refl _) (.cells #[.int .i64 va, .int .i64 vc, .slice vt dL.length vC] 169)
      have hv1 := since_step hv0 hb
      have hB1 := hB.trans (hv1.mono hB.size)
      have hown1 := own_below hown hv1
      have hsz := hB1.size
      clear hb hv0 hv1 g0 g1 g2 HSU
      go_wp2_with (first
        | (at_builtin; refine wpList_app rfl (.tmp 19) (.tmp 24) rfl EWd rfl rfl (hown1.alloc _) (m := 1) (news := [.int .i64 (hiN vq), .int .u64 (loN vq)]) rfl (Sl.new_ _ _ _) (wide_one vq) (by unfold maxLen; omega) (by omega) (by simp only [World.size_alloc]; omega) ?_; intro A2 c2 w2 hown2 hg2 hb2)
        | fail)
      go_roundw
      case rel =>
        refine ⟨k + 1, A2, c2, by omega, by go_num, ?_, ?_, (since_alloc hB1 _).trans hb2⟩
        · rw [HE.out]; simp
        · rw [HE.out, wcells_snoc]; simpa using hown2
      case measure => simp [intOf]; omega
    · obtain rfl : k = l.length := by omega
      have hT : cs.take l.length = cs := by rw [HLC.out, List.take_length]
      rw [hT] at hown ⊢
      clear hT
      have hck := Lib.hid hlcs
      have HA := wadd_any A' c' (sumsH cs a) wr (by have := HQL.out; omega) HQI.out (Sl.of_own hown)
      rw [wideE_yes H128.out] at HA
      have hB1 := hB0.trans (hB.mono hWs)
      have G1 := T2.below G0 hB
      clear hown
      obtain ⟨z, hz⟩ : ∃ z, (sumsH cs a).sum = z := ⟨_, rfl⟩
      rw [hz] at HA
      have HZ := Lib.hid hz
      clear hz
      generalize (sumsH cs a).length = n at *
      go_wp2_with fail
      refine HA.mono ?_
      rintro e w1 ⟨rfl, hb⟩
      have hB2 := since_step hB1 hb
      have G2 := T2.below G1 hb
      have hcs := @cell_set
      obtain ⟨c0, c1, c2, f1, f2⟩ := id G2
      clear hb
      go_wp2_with fail
      refine bodyPost_ret (v := .agg #[.int .i64 (hiN z), .int .u64 (loN z)]) ?_ rfl ?_
      · have G3 := T2.alloc (T2.set2 G2 (hiN z) (loN z)) (.cells #[.int .i64 (hiN z), .int .u64 (loN z)] 28)
        obtain ⟨d0, d1, d2, _, _⟩ := G3
        generalize World.alloc _ _ = U at *
        simp [results, Try.results58, go_sem, d1, d2]
      · refine ⟨by rw [HZ.out], ?_⟩
        repeat' (first | with_reducible exact hB2 | with_reducible refine Below.setCell ?_ ?_ _ | with_reducible refine since_alloc ?_ _)
        all_goals simp
end Go.Proofs.Ytldnponbkhgijaa
end
