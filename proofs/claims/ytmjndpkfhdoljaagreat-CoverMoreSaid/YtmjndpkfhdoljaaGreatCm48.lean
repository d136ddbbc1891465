import Derived.Test.YtmjndpkfhdoljaaGreatCm40
set_option maxHeartbeats 16000000
set_option maxRecDepth 100000
set_option linter.unusedVariables false
set_option linter.unusedSimpArgs false
section
namespace Go.Proofs.YtmjndpkfhdoljaaGreat
open Go.ChangeShapes Go.WideShapes Go.ChangeAt Go.RowKit

def FewKL (w0 w w' : World) (e : Ending) : Prop :=
  ∃ (R : List Po) (cs : List Pc) (A' : Option Addr) (c' : Nat), e = .returned (.slice A' R.length c') ∧ w'.ownsRow w.heap.size 95 3 (.slice A' R.length c') R.length (rc Po.cells R) ∧ PoTab w0 R cs ∧ R.length ≤ 12 ∧ GoodH cs ∧ KeysH cs
def FRelKL (n : Nat) (w0 w : World) (out i : Value) (wr : World) : Prop :=
  ∃ (k : Nat) (R : List Po) (cs : List Pc) (A' : Option Addr) (c' : Nat), k ≤ n ∧ k ≤ 12 ∧ i = .int .i64 k ∧ out = .slice A' R.length c' ∧ R.length ≤ k ∧ wr.ownsRow w.heap.size 95 3 (.slice A' R.length c') R.length (rc Po.cells R) ∧ PoTab w0 R cs ∧ GoodH cs ∧ KeysH cs ∧ Below w.heap.size w wr
theorem few19kL_any (A : Option Addr) (cap : Nat) (l : List Po) (w0 w : World) (h0 : Below w0.heap.size w0 w) (hs : Sl w A (rc Po.cells l)) (hd : ∀ g ∈ l, InK w0 g) :
    Calls Tryz.prog 16 #[.slice A l.length cap] w fun e w' => FewKL w0 w w' e ∧ Below w.heap.size w w' := by
  go_enter Tryz.func16, Tryz.ntmps16
  go_wp2_with fail
  go_loopw [3, 4] (fun out i wr => FRelKL l.length w0 w out i wr) (fun _ i _ => l.length - (intOf i).toNat)
  case atStart => exact ⟨0, [], [], none, 0, by omega, by omega, rfl, rfl, by simp, own_nil _ _ _, PoTab.nil _, ⟨(fun g h => by cases h), (fun g h => by cases h)⟩, (fun g h => by cases h), Below.refl _ _⟩
  case round =>
    obtain ⟨k, R, cs, A', c', hk, hk10, rfl, rfl, hRk, hown, htb, hgd, hky, hB⟩ := hrel
    by_cases hgo : k < l.length ∧ k < 12
    · obtain ⟨hlt, hlt10⟩ := hgo
      obtain ⟨b, o, rfl, hbw, hg⟩ := hs.po hlt
      obtain ⟨⟨e6, e7⟩, L, e1, e2, e3, e4, e5⟩ := hd l[k] (List.getElem_mem hlt)
      have hlk : (k : Int) < (l.length : Int) := by omega
      have hlk10 : (k : Int) < 12 := by omega
      have hge : (0 : Int) ≤ (k : Int) := by omega
      have HG : Hid (∀ V, Below w.heap.size w V → l[k].at V b (o + k * 3)) := Lib.hid fun V hV => Po.at_keep hg fun i => hV.cell (p := ⟨b, i, none⟩) hbw
      clear hg
      generalize l[k] = v at *
      obtain ⟨va, vc, vt, vL, vC⟩ := v
      simp only at e1 e2 e3 e4 e6 e7
      subst e1
      unfold Po.at at HG
      simp only at HG
      have HFW := Lib.hid (fun V h => few11_any vt vC L V e2 e3 h)
      have HSG : Hid (∀ V, Below w.heap.size w V → Sl V vt (rc Lg.cells L)) := Lib.hid fun V hV => (e4.below h0).below hV
      have hT : Sl w0 vt (rc Lg.cells (L.take 12)) := by
        have h := e4.take (12 * 2)
        rw [rc_take Lg.len] at h
        exact h
      have ht20 : (L.take 12).length ≤ 12 := by simp; omega
      have hq20 : ∀ y ∈ L.take 12, In64 y.qty := fun y hy => e5 y (List.mem_of_mem_take hy)
      have HTN : Hid (PoTab w0 (R ++ [⟨va, vc, vt, (L.take 12).length, vC⟩]) (cs ++ [⟨va, vc, L.take 12⟩])) := Lib.hid (htb.app ⟨rfl, rfl, rfl, hT⟩)
      have HGN : Hid (GoodH (cs ++ [⟨va, vc, L.take 12⟩])) := Lib.hid ⟨fun g hg => by
        rcases List.mem_append.1 hg with hg | hg
        · exact hgd.1 g hg
        · rw [List.mem_singleton.1 hg]; exact ht20, fun g hg => by
        rcases List.mem_append.1 hg with hg | hg
        · exact hgd.2 g hg
        · rw [List.mem_singleton.1 hg]; exact hq20⟩
      have HKN : Hid (KeysH (cs ++ [⟨va, vc, L.take 12⟩])) := Lib.hid fun g hg => by
        rcases List.mem_append.1 hg with hg | hg
        · exact hky g hg
        · rw [List.mem_singleton.1 hg]; exact ⟨e6, e7⟩
      clear hd hs e2 e3 e4 e5 e6 e7 hT ht20 hq20 htb hgd hky
      generalize L.take 12 = M at *
      go_wp2_with fail
      refine wp_region_held_drew (S := (fun V => Below w.heap.size w V)) (by kernel_rfl) (by exact hB.drew) (fun hHeld => ?_)
      refine tkI 0 15 rfl (by intro w hSw; obtain ⟨g0, g1, g2⟩ := HG.out _ hSw; go_simp <;> with_reducible rfl) hHeld ?_; simp only [pqZ]
      refine tkI 1 16 rfl (by intro w hSw; obtain ⟨g0, g1, g2⟩ := HG.out _ hSw; go_simp <;> with_reducible rfl) hHeld ?_; simp only [pqZ]
      refine tkI 2 17 rfl (by intro w hSw; obtain ⟨g0, g1, g2⟩ := HG.out _ hSw; go_simp <;> with_reducible rfl) hHeld ?_; simp only [pqZ]
      refine tkI 3 18 rfl (by intro w hSw; obtain ⟨g0, g1, g2⟩ := HG.out _ hSw; go_simp <;> with_reducible rfl) hHeld ?_; simp only [pqZ]
      refine tkI 4 19 rfl (by intro w hSw; obtain ⟨g0, g1, g2⟩ := HG.out _ hSw; go_simp <;> with_reducible rfl) hHeld ?_; simp only [pqZ]
      refine tkI 5 20 rfl (by intro w hSw; obtain ⟨g0, g1, g2⟩ := HG.out _ hSw; go_simp <;> with_reducible rfl) hHeld ?_; simp only [pqZ]
      refine tkI 6 21 rfl (by intro w hSw; obtain ⟨g0, g1, g2⟩ := HG.out _ hSw; go_simp <;> with_reducible rfl) hHeld ?_; simp only [pqZ]
      refine tkI 7 22 rfl (by intro w hSw; obtain ⟨g0, g1, g2⟩ := HG.out _ hSw; go_simp <;> with_reducible rfl) hHeld ?_; simp only [pqZ]
      refine tkI 8 23 rfl (by intro w hSw; obtain ⟨g0, g1, g2⟩ := HG.out _ hSw; go_simp <;> with_reducible rfl) hHeld ?_; simp only [pqZ]
      refine tkI 9 24 rfl (by intro w hSw; obtain ⟨g0, g1, g2⟩ := HG.out _ hSw; go_simp <;> with_reducible rfl) hHeld ?_; simp only [pqZ]
      refine tkI 10 25 rfl (by intro w hSw; obtain ⟨g0, g1, g2⟩ := HG.out _ hSw; go_simp <;> with_reducible rfl) hHeld ?_; simp only [pqZ]
      refine rdZ 11 26 rfl (by kernel_rfl) (fun K hK => ?_)
      go_simp
      refine (HFW.out _ (HSG.out _ hHeld)).mono ?_
      rintro e u1 ⟨rfl, hk1⟩
      have hKeep := since_step hHeld hk1
      have ho1 := own_below (own_below hown ((Below.refl _ _).drew)) hk1
      go_wp2_with fail
      refine hK.out _ _ (by (try dsimp only); exact hKeep) (fun hHeld => ?_); clear hK K hKeep; try simp only [pqZ]
      refine tkI 12 27 rfl (by intro w hSw; obtain ⟨g0, g1, g2⟩ := HG.out _ hSw; go_simp <;> with_reducible rfl) hHeld ?_; simp only [pqZ]
      refine rdZ 13 28 rfl (by kernel_rfl) (fun K hK => ?_)
      have hHd := hHeld
      obtain ⟨g0, g1, g2⟩ := HG.out _ hHd
      have hKeep := since_alloc hHd (.cells (⟨va, vc, vt, M.length, vC⟩ : Po).cells.toArray 95)
      have HU := Po.Bx.new u1 ⟨va, vc, vt, M.length, vC⟩
      have hown1 := World.ownsRow.alloc (w := u1) ho1 (.cells (⟨va, vc, vt, M.length, vC⟩ : Po).cells.toArray 95)
      skip
      go_simp
      refine hK.out _ _ (by (try dsimp only); exact hKeep) (fun hHeld => ?_); clear hK K hKeep; try simp only [pqZ]
      refine rdZ 14 29 rfl (by kernel_rfl) (fun K hK => ?_)
      refine step_app rfl (.tmp 15) (.tmp 28) rfl EPo (n := R.length) (m := 1) (c := c') (d := 1) (A := A') (B := some ⟨u1.heap.size, 0, none⟩) (by simp [Act.eval, Act.put]; done) (by simp [Act.eval, Act.put]; done) hown1 (by rw [Po.len]) HU.sl (Po.one _) (by unfold maxLen; omega) (by omega) hHeld.size ?_
      intro A2 c2 u2 hown2 hg2 hb2
      have hKeep := hHeld.trans hb2
      refine hK.out _ _ (by (try dsimp only); exact hKeep) (fun hHeld => ?_); clear hK K hKeep; try simp only [pqZ]
      refine tkI 15 3 rfl (by intro w hSw; obtain ⟨g0, g1, g2⟩ := HG.out _ hSw; go_simp <;> with_reducible rfl) hHeld ?_; simp only [pqZ]
      refine wpAnyH_done (by kernel_rfl) ?_ _
      have hB2 := hHeld
      go_wp2_with fail
      go_roundw
      case rel =>
        refine ⟨k + 1, R ++ [⟨va, vc, vt, M.length, vC⟩], cs ++ [⟨va, vc, M⟩], A2, c2, by omega, by omega, by go_num, by simp, by simp; omega, ?_, HTN.out, HGN.out, HKN.out, hB2⟩
        rw [rc_append]; simpa [rc] using hown2
      case measure => simp [intOf]; omega
    · have hend : ¬ ((k : Int) < (l.length : Int)) ∨ ((k : Int) < (l.length : Int) ∧ ¬ ((k : Int) < 12)) := by omega
      clear hgo
      rcases hend with h1 | ⟨h1, h2⟩
      all_goals
        go_wp2_with fail
        go_ret
        exact ⟨⟨R, cs, A', c', rfl, hown, htb, by omega, hgd, hky⟩, hB⟩
def ITabResKL (w0 w w' : World) (e : Ending) : Prop :=
  ∃ (R : List Iq) (A' : Option Addr) (c' : Nat), e = .returned (.slice A' R.length c') ∧ w'.ownsRow w.heap.size 92 5 (.slice A' R.length c') R.length (rc Iq.cells R) ∧ GIK w0 R ∧ R.length ≤ 10
theorem rtablekL_any (A : Option Addr) (cap : Nat) (l : List Iq) (w0 w : World) (h0 : Below w0.heap.size w0 w) (hs : Sl w A (rc Iq.cells l)) (hd : GI9 w0 l) :
    Calls Tryz.prog 42 #[.slice A l.length cap] w fun e w' => ITabResKL w0 w w' e ∧ Below w.heap.size w w' := by
  go_enter Tryz.func42, Tryz.ntmps42
  go_wp2_with fail
  go_loopw [3, 4] (fun out i wr => ∃ (k : Nat) (R : List Iq) (A' : Option Addr) (c' : Nat), k ≤ l.length ∧ k ≤ 10 ∧ i = .int .i64 k ∧ out = .slice A' R.length c' ∧ wr.ownsRow w.heap.size 92 5 (.slice A' R.length c') R.length (rc Iq.cells R) ∧ SortedI R ∧ GIK w0 R ∧ R.length ≤ k ∧ Below w.heap.size w wr) (fun _ i _ => l.length - (intOf i).toNat)
  case atStart => exact ⟨0, [], none, 0, by omega, by omega, rfl, rfl, own_nil _ _ _, List.Pairwise.nil, (fun g h => by cases h), by simp, Below.refl _ _⟩
  case round =>
    obtain ⟨k, R, A', c', hk, hk10, rfl, rfl, hown, hsd, hgd, hRk, hB⟩ := hrel
    by_cases hgo : k < l.length ∧ k < 10
    · obtain ⟨hlt, hlt10⟩ := hgo
      obtain ⟨b, o, rfl, hbw, hg⟩ := (hs.below hB).iq hlt
      obtain ⟨i, hi, h9⟩ := hd l[k] (List.getElem_mem hlt)
      have hlk : (k : Int) < (l.length : Int) := by omega
      have hlk10 : (k : Int) < 10 := by omega
      generalize l[k] = v at *
      have hQ : ∀ W, Below wr.heap.size wr W → Calls Tryz.prog 106 #[v.val] W fun e w' => e = .returned (.bool (okB i)) ∧ Below W.heap.size W w' := fun W hW => by
        rw [hi.val]
        exact ris_any_Inst i v.mv v.mvC W (((hi.at_.below h0).below hB).below hW)
      have HPT := rputi_any w.heap.size A' c' R v (okB i) wr hQ (by omega) hown hsd
      have HSD := Lib.hid hsd
      have HGD := Lib.hid hgd
      have hcase : (okB i = true ∧ putIR (okB i) R v = (0, putR ahI R v)) ∨ ∃ n, n ≠ 0 ∧ putIR (okB i) R v = (n, []) := by
        unfold putIR
        by_cases ho : okB i = true
        · rw [if_neg (by simp [ho])]
          split
          · exact .inr ⟨12, by decide, rfl⟩
          · exact .inl ⟨ho, rfl⟩
        · rw [if_pos ho]; exact .inr ⟨2, by decide, rfl⟩
      have HG : Hid (okB i = true → GIK w0 (putR ahI R v)) := Lib.hid fun ho g hg => by
        rcases mem_putR _ _ _ hg with rfl | hg
        · exact ⟨i, hi, h9, ho⟩
        · exact hgd g hg
      have HP : Hid (SortedI (putR ahI R v)) := Lib.hid (pairwise_putR ordI _ R hsd)
      have hpl := length_putR (ah := ahI) v R
      clear hs hbw hsd hgd hd hQ hi h9
      obtain ⟨vid, vm, vp, vx, vc, vcL, vcC⟩ := v
      obtain ⟨g0, g1, g2, g3, g4⟩ := hg
      simp only at g0 g1 g2 g3 g4
      rcases hcase with ⟨ho, hR⟩ | ⟨n, hn, hR⟩
      · rw [hR] at HPT
        have HG := Lib.hid (HG.out ho)
        clear ho
        clear hR
        unfold Iq.val at HPT
        simp only at HPT
        generalize putR ahI R ⟨vid, vm, vp, vx, vc, vcL, vcC⟩ = M at *
        have HPT := Lib.hid HPT
        go_wp2_with fail
        refine HPT.out.mono ?_
        rintro e w1 ⟨⟨A1, c1, rfl, hown1⟩, hb1⟩
        have hB2 := since_step hB hb1
        have hown2 := own_base hown1 hB.size
        clear hown hown1 hb1 g0 g1 g2 g3 g4
        go_wp2_with fail
        go_roundw
        case rel => exact ⟨k + 1, M, A1, c1, by omega, by omega, by go_num, rfl, hown2, HP.out, HG.out, by omega, hB2⟩
        case measure => simp [intOf]; omega
      · rw [hR] at HPT
        clear hR HG HP
        unfold Iq.val at HPT
        simp only at HPT
        have HPT := Lib.hid HPT
        have hnb : (n == 0) = false := by simpa using hn
        go_wp2_with fail
        refine HPT.out.mono ?_
        rintro e w1 ⟨⟨A1, c1, rfl, hown1⟩, hb1⟩
        have hB2 := since_step hB hb1
        have hown2 := own_below hown hb1
        clear hown hown1 hb1 g0 g1 g2 g3 g4
        go_wp2_with fail
        go_roundw
        case rel => exact ⟨k + 1, R, A', c', by omega, by omega, by go_num, rfl, hown2, HSD.out, HGD.out, by omega, hB2⟩
        case measure => simp [intOf]; omega
    · have hend : ¬ ((k : Int) < (l.length : Int)) ∨ ((k : Int) < (l.length : Int) ∧ ¬ ((k : Int) < 10)) := by omega
      have HF := Lib.hid (show GIK w0 R ∧ R.length ≤ 10 from ⟨hgd, by omega⟩)
      clear hgo hsd hgd
      rcases hend with h1 | ⟨h1, h2⟩
      all_goals
        go_wp2_with fail
        go_ret
        exact ⟨⟨R, A', c', rfl, hown, HF.out.1, HF.out.2⟩, hB⟩
def ITabKL (w0 w w' : World) (e : Ending) : Prop :=
  ∃ (R : List Iq) (is : List Ins) (A' : Option Addr) (c' : Nat), e = .returned (.slice A' R.length c') ∧ w'.ownsRow w.heap.size 92 5 (.slice A' R.length c') R.length (rc Iq.cells R) ∧ InTab w0 R is ∧ R.length ≤ 10 ∧ ∀ i ∈ is, i.mv.length ≤ 9 ∧ okB i = true
theorem instskL_any (A : Option Addr) (cap : Nat) (l : List Iq) (w0 w : World) (h0 : Below w0.heap.size w0 w) (hs : Sl w A (rc Iq.cells l)) (hd : ∀ g ∈ l, ∃ i : Ins, GI w0 g i) :
    Calls Tryz.prog 15 #[.slice A l.length cap] w fun e w' => ITabKL w0 w w' e ∧ Below w.heap.size w w' := by
  go_enter Tryz.func15, Tryz.ntmps15
  go_wp2_with fail
  go_loopw [3, 4] (fun out i wr => ∃ (k : Nat) (R : List Iq) (A' : Option Addr) (c' : Nat), k ≤ l.length ∧ k ≤ 10 ∧ i = .int .i64 k ∧ out = .slice A' R.length c' ∧ wr.ownsRow w.heap.size 92 5 (.slice A' R.length c') R.length (rc Iq.cells R) ∧ GI9 w0 R ∧ R.length ≤ k ∧ Below w.heap.size w wr) (fun _ i _ => l.length - (intOf i).toNat)
  case atStart => exact ⟨0, [], none, 0, by omega, by omega, rfl, rfl, own_nil _ _ _, (fun g h => by cases h), by simp, Below.refl _ _⟩
  case round =>
    obtain ⟨k, R, A', c', hk, hk10, rfl, rfl, hown, hgd, hRk, hB⟩ := hrel
    by_cases hgo : k < l.length ∧ k < 10
    · obtain ⟨hlt, hlt10⟩ := hgo
      obtain ⟨b, o, rfl, hbw, hg⟩ := (hs.below hB).iq hlt
      obtain ⟨i, hi⟩ := hd l[k] (List.getElem_mem hlt)
      have hlk : (k : Int) < (l.length : Int) := by omega
      have hlk10 : (k : Int) < 10 := by omega
      have hsz := hB.size
      generalize l[k] = v at *
      obtain ⟨vid, vm, vp, vx, vc, vcL, vcC⟩ := v
      obtain ⟨i0, i1, i2, i3, i4, hat⟩ := hi
      simp only at i0 i1 i2 i3 i4 hat
      subst i0; subst i1; subst i2; subst i3; subst i4
      obtain ⟨g0, g1, g2, g3, g4⟩ := hg
      simp only at g0 g1 g2 g3 g4
      have hcap := hat.cap
      by_cases h9 : 9 < i.mv.length
      · have h9i : (9 : Int) < (i.mv.length : Int) := by omega
        have hT9 : (i.mv.take 9).length = 9 := by simp; omega
        have HG : Hid (GI9 w0 (R ++ [⟨i.id, i.mult, i.price, i.nxt, vc, 9, vcC⟩])) := Lib.hid fun g hg => by
          rcases List.mem_append.1 hg with hg | hg
          · exact hgd g hg
          · rw [List.mem_singleton.1 hg]
            exact ⟨⟨i.id, i.mult, i.price, i.nxt, i.mv.take 9⟩, ⟨rfl, rfl, rfl, rfl, hT9.symm, ⟨⟨by simp only [hT9]; omega, hcap.2⟩, sl_takeI hat.sl 9, All64.takeI hat.mv64 9, hat.n64⟩⟩, by simp only [hT9]; omega⟩
        have h9c : (9 : Nat) ≤ vcC := by omega
        have h9d : (9 : Int) ≤ (vcC : Int) := by omega
        clear hT9 hgd hat hd hs hcap
        generalize i.mv.length = n at *
        go_wp2_with (first
          | (at_builtin; refine wpList_app rfl (.tmp 28) (.tmp 30) rfl EIq rfl rfl ((hown.alloc _).alloc _) (m := 1) (news := (⟨i.id, i.mult, i.price, i.nxt, vc, 9, vcC⟩ : Iq).cells) rfl (Sl.new1 _ _ _ _) (Iq.one _) (by unfold maxLen; omega) (by omega) (by simp only [World.size_alloc]; omega) ?_; intro A2 c2 w3 hown3 hg3 hb3)
          | fail)
        go_roundw
        case rel =>
          refine ⟨k + 1, R ++ [⟨i.id, i.mult, i.price, i.nxt, vc, 9, vcC⟩], A2, c2, by omega, by omega, by go_num, by simp, ?_, HG.out, by simp; omega, (since_alloc (since_alloc hB _) _).trans hb3⟩
          rw [rc_append]; simpa [rc] using hown3
        case measure => simp [intOf]; omega
      · have h9i : ¬ ((9 : Int) < (i.mv.length : Int)) := by omega
        have HG : Hid (GI9 w0 (R ++ [⟨i.id, i.mult, i.price, i.nxt, vc, i.mv.length, vcC⟩])) := Lib.hid fun g hg => by
          rcases List.mem_append.1 hg with hg | hg
          · exact hgd g hg
          · rw [List.mem_singleton.1 hg]
            exact ⟨i, ⟨rfl, rfl, rfl, rfl, rfl, hat⟩, by omega⟩
        clear hgd hat hd hs hcap
        generalize i.mv.length = n at *
        go_wp2_with (first
          | (at_builtin; refine wpList_app rfl (.tmp 28) (.tmp 30) rfl EIq rfl rfl ((hown.alloc _).alloc _) (m := 1) (news := (⟨i.id, i.mult, i.price, i.nxt, vc, n, vcC⟩ : Iq).cells) rfl (Sl.new1 _ _ _ _) (Iq.one _) (by unfold maxLen; omega) (by omega) (by simp only [World.size_alloc]; omega) ?_; intro A2 c2 w3 hown3 hg3 hb3)
          | fail)
        go_roundw
        case rel =>
          refine ⟨k + 1, R ++ [⟨i.id, i.mult, i.price, i.nxt, vc, n, vcC⟩], A2, c2, by omega, by omega, by go_num, by simp, ?_, HG.out, by simp; omega, (since_alloc (since_alloc hB _) _).trans hb3⟩
          rw [rc_append]; simpa [rc] using hown3
        case measure => simp [intOf]; omega
    · have hend : ¬ ((k : Int) < (l.length : Int)) ∨ ((k : Int) < (l.length : Int) ∧ ¬ ((k : Int) < 10)) := by omega
      have HT := Lib.hid (rtablekL_any A' c' R w0 wr (since_step h0 hB) (Sl.of_own hown) hgd)
      clear hgo hgd
      rcases hend with h1 | ⟨h1, h2⟩
      all_goals
        go_wp2_with fail
        refine HT.out.mono ?_
        rintro e w2 ⟨⟨Q, A3, c3, rfl, own3, hg3, hQ⟩, hb⟩
        have hB2 := since_step hB hb
        obtain ⟨is, ht, h9⟩ := hg3.tab
        go_wp2_with fail
        go_ret
        exact ⟨⟨Q, is, A3, c3, rfl, own_base own3 hB.size, ht, hQ, h9⟩, hB2⟩
end Go.Proofs.YtmjndpkfhdoljaaGreat
namespace Go.Proofs.YtmjndpkfhdoljaaGreat.Hq
open Go.ChangeShapes Go.WideShapes Go.ChangeAt Go.RowKit
def FewHL (w0 w w' : World) (e : Ending) : Prop :=
  ∃ (R : List Hd) (cs : List Hc) (A' : Option Addr) (c' : Nat), e = .returned (.slice A' R.length c') ∧ w'.ownsRow w.heap.size 98 3 (.slice A' R.length c') R.length (rc Hd.cells R) ∧ HdTab w0 R cs ∧ R.length ≤ 10 ∧ GoodH cs
def FRel26L (n : Nat) (w0 w : World) (out i : Value) (wr : World) : Prop :=
  ∃ (k : Nat) (R : List Hd) (cs : List Hc) (A' : Option Addr) (c' : Nat), k ≤ n ∧ k ≤ 10 ∧ i = .int .i64 k ∧ out = .slice A' R.length c' ∧ R.length ≤ k ∧ wr.ownsRow w.heap.size 98 3 (.slice A' R.length c') R.length (rc Hd.cells R) ∧ HdTab w0 R cs ∧ GoodH cs ∧ Below w.heap.size w wr
theorem few26L_any (A : Option Addr) (cap : Nat) (l : List Hd) (w0 w : World) (h0 : Below w0.heap.size w0 w) (hs : Sl w A (rc Hd.cells l)) (hd : ∀ g ∈ l, InH w0 g) :
    Calls Tryz.prog 18 #[.slice A l.length cap] w fun e w' => FewHL w0 w w' e ∧ Below w.heap.size w w' := by
  go_enter Tryz.func18, Tryz.ntmps18
  go_wp2_with fail
  go_loopw [3, 4] (fun out i wr => FRel26L l.length w0 w out i wr) (fun _ i _ => l.length - (intOf i).toNat)
  case atStart => exact ⟨0, [], [], none, 0, by omega, by omega, rfl, rfl, by simp, own_nil _ _ _, HdTab.nil _, ⟨(fun g h => by cases h), (fun g h => by cases h)⟩, Below.refl _ _⟩
  case round =>
    obtain ⟨k, R, cs, A', c', hk, hk10, rfl, rfl, hRk, hown, htb, hgd, hB⟩ := hrel
    by_cases hgo : k < l.length ∧ k < 10
    · obtain ⟨hlt, hlt10⟩ := hgo
      obtain ⟨b, o, rfl, hbw, hg⟩ := hs.hd hlt
      obtain ⟨L, e1, e2, e3, e4, e5⟩ := hd l[k] (List.getElem_mem hlt)
      have hlk : (k : Int) < (l.length : Int) := by omega
      have hlk10 : (k : Int) < 10 := by omega
      have hge : (0 : Int) ≤ (k : Int) := by omega
      have HG : Hid (∀ V, Below w.heap.size w V → l[k].at V b (o + k * 3)) := Lib.hid fun V hV => Hd.at_keep hg fun i => hV.cell (p := ⟨b, i, none⟩) hbw
      clear hg
      generalize l[k] = v at *
      obtain ⟨va, vc, vt, vL, vC⟩ := v
      simp only at e1 e2 e3 e4
      subst e1
      unfold Hd.at at HG
      simp only at HG
      have HFW := Lib.hid (fun V h => few18_any vt vC L V e2 e3 h)
      have HSG : Hid (∀ V, Below w.heap.size w V → Sl V vt (rc Lt.cells L)) := Lib.hid fun V hV => (e4.below h0).below hV
      have hT : Sl w0 vt (rc Lt.cells (L.take 20)) := by
        have h := e4.take (20 * 3)
        rw [rc_take Lt.len] at h
        exact h
      have ht20 : (L.take 20).length ≤ 20 := by simp; omega
      have hq20 : ∀ y ∈ L.take 20, In64 y.qty := fun y hy => e5 y (List.mem_of_mem_take hy)
      have HTN : Hid (HdTab w0 (R ++ [⟨va, vc, vt, (L.take 20).length, vC⟩]) (cs ++ [⟨va, vc, L.take 20⟩])) := Lib.hid (htb.app ⟨rfl, rfl, rfl, hT⟩)
      have HGN : Hid (GoodH (cs ++ [⟨va, vc, L.take 20⟩])) := Lib.hid ⟨fun g hg => by
        rcases List.mem_append.1 hg with hg | hg
        · exact hgd.1 g hg
        · rw [List.mem_singleton.1 hg]; exact ht20, fun g hg => by
        rcases List.mem_append.1 hg with hg | hg
        · exact hgd.2 g hg
        · rw [List.mem_singleton.1 hg]; exact hq20⟩
      clear hd hs e2 e3 e4 e5 hT ht20 hq20 htb hgd
      generalize L.take 20 = M at *
      go_wp2_with fail
      refine wp_region_held_drew (S := (fun V => Below w.heap.size w V)) (by kernel_rfl) (by exact hB.drew) (fun hHeld => ?_)
      refine tkI 0 15 rfl (by intro w hSw; obtain ⟨g0, g1, g2⟩ := HG.out _ hSw; go_simp <;> with_reducible rfl) hHeld ?_; simp only [pqZ]
      refine tkI 1 16 rfl (by intro w hSw; obtain ⟨g0, g1, g2⟩ := HG.out _ hSw; go_simp <;> with_reducible rfl) hHeld ?_; simp only [pqZ]
      refine tkI 2 17 rfl (by intro w hSw; obtain ⟨g0, g1, g2⟩ := HG.out _ hSw; go_simp <;> with_reducible rfl) hHeld ?_; simp only [pqZ]
      refine tkI 3 18 rfl (by intro w hSw; obtain ⟨g0, g1, g2⟩ := HG.out _ hSw; go_simp <;> with_reducible rfl) hHeld ?_; simp only [pqZ]
      refine tkI 4 19 rfl (by intro w hSw; obtain ⟨g0, g1, g2⟩ := HG.out _ hSw; go_simp <;> with_reducible rfl) hHeld ?_; simp only [pqZ]
      refine tkI 5 20 rfl (by intro w hSw; obtain ⟨g0, g1, g2⟩ := HG.out _ hSw; go_simp <;> with_reducible rfl) hHeld ?_; simp only [pqZ]
      refine tkI 6 21 rfl (by intro w hSw; obtain ⟨g0, g1, g2⟩ := HG.out _ hSw; go_simp <;> with_reducible rfl) hHeld ?_; simp only [pqZ]
      refine tkI 7 22 rfl (by intro w hSw; obtain ⟨g0, g1, g2⟩ := HG.out _ hSw; go_simp <;> with_reducible rfl) hHeld ?_; simp only [pqZ]
      refine tkI 8 23 rfl (by intro w hSw; obtain ⟨g0, g1, g2⟩ := HG.out _ hSw; go_simp <;> with_reducible rfl) hHeld ?_; simp only [pqZ]
      refine tkI 9 24 rfl (by intro w hSw; obtain ⟨g0, g1, g2⟩ := HG.out _ hSw; go_simp <;> with_reducible rfl) hHeld ?_; simp only [pqZ]
      refine tkI 10 25 rfl (by intro w hSw; obtain ⟨g0, g1, g2⟩ := HG.out _ hSw; go_simp <;> with_reducible rfl) hHeld ?_; simp only [pqZ]
      refine rdZ 11 26 rfl (by kernel_rfl) (fun K hK => ?_)
      go_simp
      refine (HFW.out _ (HSG.out _ hHeld)).mono ?_
      rintro e u1 ⟨rfl, hk1⟩
      have hKeep := since_step hHeld hk1
      have ho1 := own_below (own_below hown ((Below.refl _ _).drew)) hk1
      go_wp2_with fail
      refine hK.out _ _ (by (try dsimp only); exact hKeep) (fun hHeld => ?_); clear hK K hKeep; try simp only [pqZ]
      refine tkI 12 27 rfl (by intro w hSw; obtain ⟨g0, g1, g2⟩ := HG.out _ hSw; go_simp <;> with_reducible rfl) hHeld ?_; simp only [pqZ]
      refine rdZ 13 28 rfl (by kernel_rfl) (fun K hK => ?_)
      have hHd := hHeld
      obtain ⟨g0, g1, g2⟩ := HG.out _ hHd
      have hKeep := since_alloc hHd (.cells (⟨va, vc, vt, M.length, vC⟩ : Hd).cells.toArray 98)
      have HU := Hd.Bx.new u1 ⟨va, vc, vt, M.length, vC⟩
      have hown1 := World.ownsRow.alloc (w := u1) ho1 (.cells (⟨va, vc, vt, M.length, vC⟩ : Hd).cells.toArray 98)
      skip
      go_simp
      refine hK.out _ _ (by (try dsimp only); exact hKeep) (fun hHeld => ?_); clear hK K hKeep; try simp only [pqZ]
      refine rdZ 14 29 rfl (by kernel_rfl) (fun K hK => ?_)
      refine step_app rfl (.tmp 15) (.tmp 28) rfl EHd (n := R.length) (m := 1) (c := c') (d := 1) (A := A') (B := some ⟨u1.heap.size, 0, none⟩) (by simp [Act.eval, Act.put]; done) (by simp [Act.eval, Act.put]; done) hown1 (by rw [Hd.len]) HU.sl (Hd.one _) (by unfold maxLen; omega) (by omega) hHeld.size ?_
      intro A2 c2 u2 hown2 hg2 hb2
      have hKeep := hHeld.trans hb2
      refine hK.out _ _ (by (try dsimp only); exact hKeep) (fun hHeld => ?_); clear hK K hKeep; try simp only [pqZ]
      refine tkI 15 3 rfl (by intro w hSw; obtain ⟨g0, g1, g2⟩ := HG.out _ hSw; go_simp <;> with_reducible rfl) hHeld ?_; simp only [pqZ]
      refine wpAnyH_done (by kernel_rfl) ?_ _
      have hB2 := hHeld
      go_wp2_with fail
      go_roundw
      case rel =>
        refine ⟨k + 1, R ++ [⟨va, vc, vt, M.length, vC⟩], cs ++ [⟨va, vc, M⟩], A2, c2, by omega, by omega, by go_num, by simp, by simp; omega, ?_, HTN.out, HGN.out, hB2⟩
        rw [rc_append]; simpa [rc] using hown2
      case measure => simp [intOf]; omega
    · have hend : ¬ ((k : Int) < (l.length : Int)) ∨ ((k : Int) < (l.length : Int) ∧ ¬ ((k : Int) < 10)) := by omega
      clear hgo
      rcases hend with h1 | ⟨h1, h2⟩
      all_goals
        go_wp2_with fail
        go_ret
        exact ⟨⟨R, cs, A', c', rfl, hown, htb, by omega, hgd⟩, hB⟩
end Go.Proofs.YtmjndpkfhdoljaaGreat.Hq
end
