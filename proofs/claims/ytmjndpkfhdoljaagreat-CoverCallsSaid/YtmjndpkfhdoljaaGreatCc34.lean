import Derived.Test.YtmjndpkfhdoljaaGreatCc08
import Derived.Test.YtmjndpkfhdoljaaGreatCc23
import Derived.Test.YtmjndpkfhdoljaaGreatCc29
import Derived.Test.YtmjndpkfhdoljaaGreatCc18
set_option maxHeartbeats 16000000
set_option maxRecDepth 100000
set_option linter.unusedVariables false
set_option linter.unusedSimpArgs false
section
namespace Go.Proofs.YtmjndpkfhdoljaaGreat.Hq
open Go.ChangeShapes Go.WideShapes Go.ChangeAt Go.RowKit

theorem rd_ltrowH {w : World} {r : List Value} (h : Rd w (.cat (.int .i64) (.cat (.int .i64) (.cat (.int .i64) .nil))) r) : ∃ g : Lt, r = g.cells ∧ In64 g.qty := by
  obtain ⟨p, q, rfl, ⟨a, rfl, _⟩, ⟨p2, q2, rfl, ⟨b, rfl, _⟩, ⟨p3, q3, rfl, ⟨c, rfl, hc⟩, rfl⟩⟩⟩ := h
  exact ⟨⟨a, b, c⟩, rfl, bd_i64 hc⟩
def InH (w : World) (g : Hd) : Prop := ∃ L : List Lt, g.ltL = L.length ∧ L.length ≤ g.ltC ∧ g.ltC ≤ maxLen ∧ Sl w g.lt (rc Lt.cells L) ∧ ∀ y ∈ L, In64 y.qty
theorem rd_hold {w : World} {r : List Value} (h : Rd w (.cat (.cat (.int .i64) (.cat (.int .i64) .nil)) (.cat (.sl (.cat (.int .i64) (.cat (.int .i64) (.cat (.int .i64) .nil)))) .nil)) r) : ∃ g : Hd, r = g.cells ∧ InH w g := by
  obtain ⟨p, q, rfl, ⟨p1, q1, rfl, ⟨a, rfl, _⟩, ⟨p2, q2, rfl, ⟨c, rfl, _⟩, rfl⟩⟩, ⟨p3, q3, rfl, h4, rfl⟩⟩ := h
  obtain ⟨A, n, k, rows, rfl, h1, h2, h3, h5, h6⟩ := _root_.id h4
  obtain ⟨L, rfl, _, _, hs, hq⟩ := rd_rowsP (f := Lt.cells) (fun r => rd_ltrowH) h4
  exact ⟨⟨a, c, A, L.length, k⟩, rfl, L, rfl, h1, h2, hs, hq⟩
def GoodH (cs : List Hc) : Prop := (∀ g ∈ cs, g.L.length ≤ 20) ∧ ∀ g ∈ cs, ∀ y ∈ g.L, In64 y.qty
def FewH (w' : World) (e : Ending) : Prop :=
  ∃ (R : List Hd) (cs : List Hc) (A' : Option Addr) (c' : Nat), e = .returned (.slice A' R.length c') ∧ Sl w' A' (rc Hd.cells R) ∧ HdTab w' R cs ∧ CapH A' R.length c' ∧ R.length ≤ 10 ∧ GoodH cs
def FRel26 (n : Nat) (w : World) (out i : Value) (wr : World) : Prop :=
  ∃ (k : Nat) (R : List Hd) (cs : List Hc) (A' : Option Addr) (c' : Nat), k ≤ n ∧ k ≤ 10 ∧ i = .int .i64 k ∧ out = .slice A' R.length c' ∧ R.length ≤ k ∧ wr.ownsRow w.heap.size 98 3 (.slice A' R.length c') R.length (rc Hd.cells R) ∧ HdTab w R cs ∧ GoodH cs ∧ Below w.heap.size w wr
theorem few26_any (A : Option Addr) (cap : Nat) (l : List Hd) (w : World) (hs : Sl w A (rc Hd.cells l)) (hd : ∀ g ∈ l, InH w g) :
    Calls Tryz.prog 18 #[.slice A l.length cap] w fun e w' => FewH w' e ∧ Below w.heap.size w w' := by
  go_enter Tryz.func18, Tryz.ntmps18
  go_wp2_with fail
  go_loopw [3, 4] (fun out i wr => FRel26 l.length w out i wr) (fun _ i _ => l.length - (intOf i).toNat)
  case atStart => exact ⟨0, [], [], none, 0, by omega, by omega, rfl, rfl, by simp, own_nil _ _ _, HdTab.nil _, ⟨(fun g h => by cases h), (fun g h => by cases h)⟩, Below.refl _ _⟩
  case round =>
    obtain ⟨k, R, cs, A', c', hk, hk10, rfl, rfl, hRk, hown, htb, hgd, hB⟩ := hrel
    by_cases hgo : k < l.length ∧ k < 10
    · obtain ⟨hlt, hlt10⟩ := hgo
      obtain ⟨b, o, rfl, hbw, hg⟩ := hs.hd hlt
      obtain ⟨L, e1, e2, e3, e4, e5⟩ := hd l[k] (List.getElem_mem hlt)
      have hlk : (k : Int) < (l.length : Int) := by omega
      have hlk10 : (k : Int) < 10 := by omega
      have hge : (0 : Int) ≤ (k : Int) := by omega
      have HG : Hid (∀ V, Below w.heap.size w V → l[k].at V b (o + k * 3)) := Lib.hid fun V hV => Hd.at_keep hg fun i => hV.cell (p := ⟨b, i, none⟩) hbw
      clear hg
      generalize l[k] = v at *
      obtain ⟨va, vc, vt, vL, vC⟩ := v
      simp only at e1 e2 e3 e4
      subst e1
      unfold Hd.at at HG
      simp only at HG
      have HFW := Lib.hid (fun V h => few18_any vt vC L V e2 e3 h)
      have HSG : Hid (∀ V, Below w.heap.size w V → Sl V vt (rc Lt.cells L)) := Lib.hid fun V hV => e4.below hV
      have hT : Sl w vt (rc Lt.cells (L.take 20)) := by
        have h := e4.take (20 * 3)
        rw [rc_take Lt.len] at h
        exact h
      have ht20 : (L.take 20).length ≤ 20 := by simp; omega
      have hq20 : ∀ y ∈ L.take 20, In64 y.qty := fun y hy => e5 y (List.mem_of_mem_take hy)
      have HTN : Hid (HdTab w (R ++ [⟨va, vc, vt, (L.take 20).length, vC⟩]) (cs ++ [⟨va, vc, L.take 20⟩])) := Lib.hid (htb.app ⟨rfl, rfl, rfl, hT⟩)
      have HGN : Hid (GoodH (cs ++ [⟨va, vc, L.take 20⟩])) := Lib.hid ⟨fun g hg => by
        rcases List.mem_append.1 hg with hg | hg
        · exact hgd.1 g hg
        · rw [List.mem_singleton.1 hg]; exact ht20, fun g hg => by
        rcases List.mem_append.1 hg with hg | hg
        · exact hgd.2 g hg
        · rw [List.mem_singleton.1 hg]; exact hq20⟩
      clear hd hs e2 e3 e4 e5 hT ht20 hq20 htb hgd
      generalize L.take 20 = M at *
      go_wp2_with fail
      refine wp_region_held_drew (S := (fun V => Below w.heap.size w V)) (by kernel_rfl) (by exact hB.drew) (fun hHeld => ?_)
      refine tkI 0 15 rfl (by intro w hSw; obtain ⟨g0, g1, g2⟩ := HG.out _ hSw; go_simp <;> with_reducible rfl) hHeld ?_; simp only [pqZ]
      refine tkI 1 16 rfl (by intro w hSw; obtain ⟨g0, g1, g2⟩ := HG.out _ hSw; go_simp <;> with_reducible rfl) hHeld ?_; simp only [pqZ]
      refine tkI 2 17 rfl (by intro w hSw; obtain ⟨g0, g1, g2⟩ := HG.out _ hSw; go_simp <;> with_reducible rfl) hHeld ?_; simp only [pqZ]
      refine tkI 3 18 rfl (by intro w hSw; obtain ⟨g0, g1, g2⟩ := HG.out _ hSw; go_simp <;> with_reducible rfl) hHeld ?_; simp only [pqZ]
      refine tkI 4 19 rfl (by intro w hSw; obtain ⟨g0, g1, g2⟩ := HG.out _ hSw; go_simp <;> with_reducible rfl) hHeld ?_; simp only [pqZ]
      refine tkI 5 20 rfl (by intro w hSw; obtain ⟨g0, g1, g2⟩ := HG.out _ hSw; go_simp <;> with_reducible rfl) hHeld ?_; simp only [pqZ]
      refine tkI 6 21 rfl (by intro w hSw; obtain ⟨g0, g1, g2⟩ := HG.out _ hSw; go_simp <;> with_reducible rfl) hHeld ?_; simp only [pqZ]
      refine tkI 7 22 rfl (by intro w hSw; obtain ⟨g0, g1, g2⟩ := HG.out _ hSw; go_simp <;> with_reducible rfl) hHeld ?_; simp only [pqZ]
      refine tkI 8 23 rfl (by intro w hSw; obtain ⟨g0, g1, g2⟩ := HG.out _ hSw; go_simp <;> with_reducible rfl) hHeld ?_; simp only [pqZ]
      refine tkI 9 24 rfl (by intro w hSw; obtain ⟨g0, g1, g2⟩ := HG.out _ hSw; go_simp <;> with_reducible rfl) hHeld ?_; simp only [pqZ]
      refine tkI 10 25 rfl (by intro w hSw; obtain ⟨g0, g1, g2⟩ := HG.out _ hSw; go_simp <;> with_reducible rfl) hHeld ?_; simp only [pqZ]
      refine rdZ 11 26 rfl (by kernel_rfl) (fun K hK => ?_)
      go_simp
      refine (HFW.out _ (HSG.out _ hHeld)).mono ?_
      rintro e u1 ⟨rfl, hk1⟩
      have hKeep := since_step hHeld hk1
      have ho1 := own_below (own_below hown ((Below.refl _ _).drew)) hk1
      go_wp2_with fail
      refine hK.out _ _ (by (try dsimp only); exact hKeep) (fun hHeld => ?_); clear hK K hKeep; try simp only [pqZ]
      refine tkI 12 27 rfl (by intro w hSw; obtain ⟨g0, g1, g2⟩ := HG.out _ hSw; go_simp <;> with_reducible rfl) hHeld ?_; simp only [pqZ]
      refine rdZ 13 28 rfl (by kernel_rfl) (fun K hK => ?_)
      have hHd := hHeld
      obtain ⟨g0, g1, g2⟩ := HG.out _ hHd
      have hKeep := since_alloc hHd (.cells (⟨va, vc, vt, M.length, vC⟩ : Hd).cells.toArray 98)
      have HU := Hd.Bx.new u1 ⟨va, vc, vt, M.length, vC⟩
      have hown1 := World.ownsRow.alloc (w := u1) ho1 (.cells (⟨va, vc, vt, M.length, vC⟩ : Hd).cells.toArray 98)
      skip
      go_simp
      refine hK.out _ _ (by (try dsimp only); exact hKeep) (fun hHeld => ?_); clear hK K hKeep; try simp only [pqZ]
      refine rdZ 14 29 rfl (by kernel_rfl) (fun K hK => ?_)
      refine step_app rfl (.tmp 15) (.tmp 28) rfl EHd (n := R.length) (m := 1) (c := c') (d := 1) (A := A') (B := some ⟨u1.heap.size, 0, none⟩) (by simp [Act.eval, Act.put]; done) (by simp [Act.eval, Act.put]; done) hown1 (by rw [Hd.len]) HU.sl (Hd.one _) (by unfold maxLen; omega) (by omega) hHeld.size ?_
      intro A2 c2 u2 hown2 hg2 hb2
      have hKeep := hHeld.trans hb2
      refine hK.out _ _ (by (try dsimp only); exact hKeep) (fun hHeld => ?_); clear hK K hKeep; try simp only [pqZ]
      refine tkI 15 3 rfl (by intro w hSw; obtain ⟨g0, g1, g2⟩ := HG.out _ hSw; go_simp <;> with_reducible rfl) hHeld ?_; simp only [pqZ]
      refine wpAnyH_done (by kernel_rfl) ?_ _
      have hB2 := hHeld
      go_wp2_with fail
      go_roundw
      case rel =>
        refine ⟨k + 1, R ++ [⟨va, vc, vt, M.length, vC⟩], cs ++ [⟨va, vc, M⟩], A2, c2, by omega, by omega, by go_num, by simp, by simp; omega, ?_, HTN.out, HGN.out, hB2⟩
        rw [rc_append]; simpa [rc] using hown2
      case measure => simp [intOf]; omega
    · have hend : ¬ ((k : Int) < (l.length : Int)) ∨ ((k : Int) < (l.length : Int) ∧ ¬ ((k : Int) < 10)) := by omega
      clear hgo
      rcases hend with h1 | ⟨h1, h2⟩
      all_goals
        go_wp2_with fail
        go_ret
        exact ⟨⟨R, cs, A', c', rfl, Sl.of_own hown, htb.below hB, CapH.of_own hown, by omega, hgd⟩, hB⟩
end Go.Proofs.YtmjndpkfhdoljaaGreat.Hq
end
namespace Go.Proofs.YtmjndpkfhdoljaaGreat
open Go.ChangeShapes Go.WideShapes Go.ChangeAt Go.RowKit
section
def GI9 (w : World) (l : List Iq) : Prop := ∀ g ∈ l, ∃ i : Ins, GI w g i ∧ i.mv.length ≤ 9
theorem GI9.below {w w' : World} {l : List Iq} (h : GI9 w l) (hb : Below w.heap.size w w') : GI9 w' l := fun g hg => by
  obtain ⟨i, hi, hl⟩ := h g hg
  exact ⟨i, hi.below hb, hl⟩
theorem GI9.tab {w : World} : ∀ {l : List Iq}, GI9 w l → ∃ is : List Ins, InTab w l is ∧ ∀ i ∈ is, i.mv.length ≤ 9
  | [], _ => ⟨[], InTab.nil w, fun i h => by cases h⟩
  | g :: l, h => by
    obtain ⟨is, ht, hl⟩ := GI9.tab (l := l) fun x hx => h x (List.mem_cons_of_mem _ hx)
    obtain ⟨i, hi, h9⟩ := h g List.mem_cons_self
    refine ⟨i :: is, InTab.cons hi ht, fun x hx => ?_⟩
    rcases List.mem_cons.1 hx with rfl | hx
    · exact h9
    · exact hl x hx
theorem rd_insrow {w : World} {r : List Value} (h : Rd w (.cat (.int .i64) (.cat (.int .i64) (.cat (.int .i64) (.cat (.int .i64) (.cat (.sl (.int .i64)) .nil))))) r) : ∃ g : Iq, r = g.cells ∧ ∃ i : Ins, GI w g i := by
  obtain ⟨x1, y1, rfl, ⟨n1, rfl, w1⟩, x2, y2, rfl, ⟨n2, rfl, w2⟩, x3, y3, rfl, ⟨n3, rfl, w3⟩, x4, y4, rfl, ⟨n4, rfl, w4⟩, x5, y5, rfl, h5, rfl⟩ := h
  obtain ⟨A, n, c, rows, rfl, r⟩ := _root_.id h5
  obtain ⟨l, hl, hc, hm, hs, hw⟩ := rd_ints h5
  exact ⟨⟨n1, n2, n3, n4, A, n, c⟩, rfl, ⟨n1, n2, n3, n4, l⟩, ⟨rfl, rfl, rfl, rfl, hl.symm, ⟨⟨by simp only; omega, hm⟩, hs, All64.ofI hw, bd_i64 w1, bd_i64 w2, bd_i64 w3, bd_i64 w4⟩⟩⟩
end
end Go.Proofs.YtmjndpkfhdoljaaGreat
