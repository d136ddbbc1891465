import Derived.Test.YtahdmomadbbhoaaGreatDg13
import Derived.Test.YtahdmomadbbhoaaGreatDg35
import Derived.Test.YtahdmomadbbhoaaGreatDg49
section
namespace Go.Proofs.YtahdmomadbbhoaaGreat
open Go.ChangeShapes Go.WideShapes Go.ChangeAt Go.RowKit
set_option linter.unusedVariables false
set_option linter.unusedSimpArgs false

theorem gain_turnD (i : Ins) (q a b : Int) : q * i.mult * (b - a) = gainZ i q a b := by unfold gainZ; rw [Int.mul_assoc, Int.mul_comm i.mult, ← Int.mul_assoc]
theorem gain_128 {i : Ins} {q pr : Int} (h : dchk i q pr = true) (hq : In64 q) : In128 (gainZ i q pr i.price) := by
  have hok := (dchk_iff i q pr).1 h
  have hp := ok_pr hok.1
  have hm := pr_move hok.2.1 hp.1
  exact (move_in hq ⟨hm.1, hm.2.1⟩ (ok_mult hok.1)).2.2.2
theorem moveR_no {p : List Fw} {fa fc ta tc m : Int} (h : isF p = true) (h8 : ¬ In64 (-m)) : moveR p fa fc ta tc m = (7, []) := by
  unfold moveR
  rw [if_neg (by simp [h]), if_neg h8]
theorem moveR_yes {p : List Fw} {fa fc ta tc m : Int} (h : isF p = true) (h8 : In64 (-m)) : moveR p fa fc ta tc m = payR p [⟨fa, fc, -m⟩, ⟨ta, tc, m⟩] := by
  unfold moveR
  rw [if_neg (by simp [h]), if_pos h8]
set_option maxHeartbeats 16000000 in
set_option maxRecDepth 100000 in
theorem rdat_A (A : Option Addr) (cap : Nat) (l : List Po) (cs : List Pc) (FA : Option Addr) (fcp : Nat) (p : List Fw) (i : Ins) (IA : Option Addr) (IC : Nat) (fa fc ta tc q pr : Int) (w : World) (hl : l.length ≤ 800000) (hcl : ∀ g ∈ cs, g.L.length ≤ 400000) (h6 : ∀ g ∈ cs, ∀ y ∈ g.L, In64 y.qty) (hpn : p.length ≤ 40000) (hpi : ∀ x ∈ p, Fw.in_ x) (hu : In64 fa ∧ In64 fc ∧ In64 ta ∧ In64 tc) (hq : In64 q) (hpr : In64 pr) (hd : Dk w A l cs FA p) (hi : InsAt w i IA IC) (hb0 : (isH cs && isF p) = false) (hb1 : isH cs = false ∨ isF p = false) :
    Calls Tryz.prog 9 #[.agg #[.slice A l.length cap, .slice FA p.length fcp], insV i IA IC, .agg #[.int .i64 fa, .int .i64 fc], .agg #[.int .i64 ta, .int .i64 tc], .int .i64 q, .int .i64 pr] w fun e w' => DRes w' e (dealR cs p i fa fc ta tc q pr).1 (dealR cs p i fa fc ta tc q pr).2.1 (dealR cs p i fa fc ta tc q pr).2.2 ∧ Below w.heap.size w w' := by
  have hB0 := since_alloc (since_alloc (since_alloc (since_alloc (since_alloc (Below.refl _ w) (.cells #[.slice A l.length cap, .slice FA p.length fcp] 36)) (.cells #[.int .i64 i.id, .int .i64 i.mult, .int .i64 i.price, .int .i64 i.nxt, .slice IA i.mv.length IC] 26)) (.cells #[.int .i64 fa, .int .i64 fc] 28)) (.cells #[.int .i64 ta, .int .i64 tc] 28)) (.cells #[.slice none 0 0, .slice none 0 0] 36)
  have K0 := (((((Bk.new w #[.slice A l.length cap, .slice FA p.length fcp] 36).alloc (.cells #[.int .i64 i.id, .int .i64 i.mult, .int .i64 i.price, .int .i64 i.nxt, .slice IA i.mv.length IC] 26)).alloc (.cells #[.int .i64 fa, .int .i64 fc] 28)).alloc (.cells #[.int .i64 ta, .int .i64 tc] 28)).alloc (.cells #[.slice none 0 0, .slice none 0 0] 36))
  have K1 := ((((Bk.new (w.alloc (.cells #[.slice A l.length cap, .slice FA p.length fcp] 36)) #[.int .i64 i.id, .int .i64 i.mult, .int .i64 i.price, .int .i64 i.nxt, .slice IA i.mv.length IC] 26).alloc (.cells #[.int .i64 fa, .int .i64 fc] 28)).alloc (.cells #[.int .i64 ta, .int .i64 tc] 28)).alloc (.cells #[.slice none 0 0, .slice none 0 0] 36))
  rw [World.size_alloc] at K1
  have K2 := (((Bk.new ((w.alloc (.cells #[.slice A l.length cap, .slice FA p.length fcp] 36)).alloc (.cells #[.int .i64 i.id, .int .i64 i.mult, .int .i64 i.price, .int .i64 i.nxt, .slice IA i.mv.length IC] 26)) #[.int .i64 fa, .int .i64 fc] 28).alloc (.cells #[.int .i64 ta, .int .i64 tc] 28)).alloc (.cells #[.slice none 0 0, .slice none 0 0] 36))
  rw [World.size_alloc, World.size_alloc] at K2
  have K3 := ((Bk.new (((w.alloc (.cells #[.slice A l.length cap, .slice FA p.length fcp] 36)).alloc (.cells #[.int .i64 i.id, .int .i64 i.mult, .int .i64 i.price, .int .i64 i.nxt, .slice IA i.mv.length IC] 26)).alloc (.cells #[.int .i64 fa, .int .i64 fc] 28)) #[.int .i64 ta, .int .i64 tc] 28).alloc (.cells #[.slice none 0 0, .slice none 0 0] 36))
  rw [World.size_alloc, World.size_alloc, World.size_alloc] at K3
  have X := DB.new ((((w.alloc (.cells #[.slice A l.length cap, .slice FA p.length fcp] 36)).alloc (.cells #[.int .i64 i.id, .int .i64 i.mult, .int .i64 i.price, .int .i64 i.nxt, .slice IA i.mv.length IC] 26)).alloc (.cells #[.int .i64 fa, .int .i64 fc] 28)).alloc (.cells #[.int .i64 ta, .int .i64 tc] 28)) 36
  rw [World.size_alloc, World.size_alloc, World.size_alloc, World.size_alloc] at X
  have hBW : Hid (∀ V, Below w.heap.size w V → Dk V A l cs FA p) := Lib.hid fun V h => hd.below h
  have hIW : Hid (∀ V, Below w.heap.size w V → InsAt V i IA IC) := Lib.hid fun V h => hi.below h
  unfold insV
  have hi6 := hi.n64
  clear hd hi
  go_enter Tryz.func9, Tryz.ntmps9
  go_upto_region 1 with fail
  generalize hWW : (((((w.alloc (.cells #[.slice A l.length cap, .slice FA p.length fcp] 36)).alloc (.cells #[.int .i64 i.id, .int .i64 i.mult, .int .i64 i.price, .int .i64 i.nxt, .slice IA i.mv.length IC] 26)).alloc (.cells #[.int .i64 fa, .int .i64 fc] 28)).alloc (.cells #[.int .i64 ta, .int .i64 tc] 28)).alloc (.cells #[.slice none 0 0, .slice none 0 0] 36)) = W at *
  clear hWW
  have HC : Hid (∀ V, Below W.heap.size W V → (V.cell? ⟨w.heap.size, 0, none⟩ = some (.slice A l.length cap) ∧ V.cell? ⟨w.heap.size, 1, none⟩ = some (.slice FA p.length fcp)) ∧ (V.cell? ⟨w.heap.size + 1, 0, none⟩ = some (.int .i64 i.id) ∧ V.cell? ⟨w.heap.size + 1, 1, none⟩ = some (.int .i64 i.mult) ∧ V.cell? ⟨w.heap.size + 1, 2, none⟩ = some (.int .i64 i.price) ∧ V.cell? ⟨w.heap.size + 1, 3, none⟩ = some (.int .i64 i.nxt) ∧ V.cell? ⟨w.heap.size + 1, 4, none⟩ = some (.slice IA i.mv.length IC)) ∧ (V.cell? ⟨w.heap.size + 1 + 1, 0, none⟩ = some (.int .i64 fa) ∧ V.cell? ⟨w.heap.size + 1 + 1, 1, none⟩ = some (.int .i64 fc)) ∧ (V.cell? ⟨w.heap.size + 1 + 1 + 1, 0, none⟩ = some (.int .i64 ta) ∧ V.cell? ⟨w.heap.size + 1 + 1 + 1, 1, none⟩ = some (.int .i64 tc))) := Lib.hid fun V h => ⟨⟨(K0.below h).2 0, (K0.below h).2 1⟩, ⟨(K1.below h).2 0, (K1.below h).2 1, (K1.below h).2 2, (K1.below h).2 3, (K1.below h).2 4⟩, ⟨(K2.below h).2 0, (K2.below h).2 1⟩, ⟨(K3.below h).2 0, (K3.below h).2 1⟩⟩
  have HX : Hid (∀ V, Below W.heap.size W V → DB V (w.heap.size + 1 + 1 + 1 + 1)) := Lib.hid fun V h => X.below h
  have HW : Hid (∀ V, Below W.heap.size W V → Below w.heap.size w V) := Lib.hid fun V h => hB0.trans (h.mono hB0.size)
  have hC := Below.refl W.heap.size W
  clear K0 K1 K2 K3 X hB0
  have HIS := fun V (h : Below w.heap.size w V) => rdis_any A cap l cs FA fcp p V (by omega) (fun g hg => Nat.le_trans (hcl g hg) (by omega)) (by omega) (hBW.out V h)
  rw [hb0] at HIS
  have HIS := Lib.hid HIS
  have HR := Lib.hid (dealR_form (i := i) (fa := fa) (fc := fc) (ta := ta) (tc := tc) (q := q) (pr := pr) hb1)
  clear hb0 hb1
  obtain ⟨⟨d0, d1⟩, ⟨i0, i1, i2, i3, i4⟩, ⟨f0, f1⟩, ⟨u0, u1⟩⟩ := HC.out _ hC
  go_wp2_with fail
  refine (HIS.out _ (HW.out _ hC)).mono ?_
  rintro e z1 ⟨rfl, hb⟩
  have hC := since_step hC hb
  clear hb
  clear d0 d1 i0 i1 i2 i3 i4 f0 f1 u0 u1
  obtain ⟨⟨d0, d1⟩, ⟨i0, i1, i2, i3, i4⟩, ⟨f0, f1⟩, ⟨u0, u1⟩⟩ := HC.out _ hC
  obtain ⟨x0, x1, x2, x3, x4⟩ := (HX.out _ hC).got
  have hBn := HW.out _ hC
  have hcs := @cell_set
  go_wp2_with fail
  refine bodyPost_ret (v := .tuple #[.agg #[.slice none 0 0, .slice none 0 0], .int .i64 (3)]) ?_ rfl ⟨?_, ?_⟩
  · simp [results, Tryz.results9, go_sem, x0, x1, x2, hcs]
  · rw [HR.out]; exact DRes.nil _ _
  · repeat' (first | with_reducible exact hBn | with_reducible refine Below.setCell ?_ ?_ _ | with_reducible refine Below.alloc ?_ ?_ _)
    all_goals first | (simp; done) | (simp; omega)
set_option maxHeartbeats 16000000 in
set_option maxRecDepth 100000 in
theorem rdat_B (A : Option Addr) (cap : Nat) (l : List Po) (cs : List Pc) (FA : Option Addr) (fcp : Nat) (p : List Fw) (i : Ins) (IA : Option Addr) (IC : Nat) (fa fc ta tc q pr : Int) (w : World) (hl : l.length ≤ 800000) (hcl : ∀ g ∈ cs, g.L.length ≤ 400000) (h6 : ∀ g ∈ cs, ∀ y ∈ g.L, In64 y.qty) (hpn : p.length ≤ 40000) (hpi : ∀ x ∈ p, Fw.in_ x) (hu : In64 fa ∧ In64 fc ∧ In64 ta ∧ In64 tc) (hq : In64 q) (hpr : In64 pr) (hd : Dk w A l cs FA p) (hi : InsAt w i IA IC) (h1 : isH cs = true) (h2 : isF p = true) (h3 : dchk i q pr = false) :
    Calls Tryz.prog 9 #[.agg #[.slice A l.length cap, .slice FA p.length fcp], insV i IA IC, .agg #[.int .i64 fa, .int .i64 fc], .agg #[.int .i64 ta, .int .i64 tc], .int .i64 q, .int .i64 pr] w fun e w' => DRes w' e (dealR cs p i fa fc ta tc q pr).1 (dealR cs p i fa fc ta tc q pr).2.1 (dealR cs p i fa fc ta tc q pr).2.2 ∧ Below w.heap.size w w' := by
  have hB0 := since_alloc (since_alloc (since_alloc (since_alloc (since_alloc (Below.refl _ w) (.cells #[.slice A l.length cap, .slice FA p.length fcp] 36)) (.cells #[.int .i64 i.id, .int .i64 i.mult, .int .i64 i.price, .int .i64 i.nxt, .slice IA i.mv.length IC] 26)) (.cells #[.int .i64 fa, .int .i64 fc] 28)) (.cells #[.int .i64 ta, .int .i64 tc] 28)) (.cells #[.slice none 0 0, .slice none 0 0] 36)
  have K0 := (((((Bk.new w #[.slice A l.length cap, .slice FA p.length fcp] 36).alloc (.cells #[.int .i64 i.id, .int .i64 i.mult, .int .i64 i.price, .int .i64 i.nxt, .slice IA i.mv.length IC] 26)).alloc (.cells #[.int .i64 fa, .int .i64 fc] 28)).alloc (.cells #[.int .i64 ta, .int .i64 tc] 28)).alloc (.cells #[.slice none 0 0, .slice none 0 0] 36))
  have K1 := ((((Bk.new (w.alloc (.cells #[.slice A l.length cap, .slice FA p.length fcp] 36)) #[.int .i64 i.id, .int .i64 i.mult, .int .i64 i.price, .int .i64 i.nxt, .slice IA i.mv.length IC] 26).alloc (.cells #[.int .i64 fa, .int .i64 fc] 28)).alloc (.cells #[.int .i64 ta, .int .i64 tc] 28)).alloc (.cells #[.slice none 0 0, .slice none 0 0] 36))
  rw [World.size_alloc] at K1
  have K2 := (((Bk.new ((w.alloc (.cells #[.slice A l.length cap, .slice FA p.length fcp] 36)).alloc (.cells #[.int .i64 i.id, .int .i64 i.mult, .int .i64 i.price, .int .i64 i.nxt, .slice IA i.mv.length IC] 26)) #[.int .i64 fa, .int .i64 fc] 28).alloc (.cells #[.int .i64 ta, .int .i64 tc] 28)).alloc (.cells #[.slice none 0 0, .slice none 0 0] 36))
  rw [World.size_alloc, World.size_alloc] at K2
  have K3 := ((Bk.new (((w.alloc (.cells #[.slice A l.length cap, .slice FA p.length fcp] 36)).alloc (.cells #[.int .i64 i.id, .int .i64 i.mult, .int .i64 i.price, .int .i64 i.nxt, .slice IA i.mv.length IC] 26)).alloc (.cells #[.int .i64 fa, .int .i64 fc] 28)) #[.int .i64 ta, .int .i64 tc] 28).alloc (.cells #[.slice none 0 0, .slice none 0 0] 36))
  rw [World.size_alloc, World.size_alloc, World.size_alloc] at K3
  have X := DB.new ((((w.alloc (.cells #[.slice A l.length cap, .slice FA p.length fcp] 36)).alloc (.cells #[.int .i64 i.id, .int .i64 i.mult, .int .i64 i.price, .int .i64 i.nxt, .slice IA i.mv.length IC] 26)).alloc (.cells #[.int .i64 fa, .int .i64 fc] 28)).alloc (.cells #[.int .i64 ta, .int .i64 tc] 28)) 36
  rw [World.size_alloc, World.size_alloc, World.size_alloc, World.size_alloc] at X
  have hBW : Hid (∀ V, Below w.heap.size w V → Dk V A l cs FA p) := Lib.hid fun V h => hd.below h
  have hIW : Hid (∀ V, Below w.heap.size w V → InsAt V i IA IC) := Lib.hid fun V h => hi.below h
  unfold insV
  have hi6 := hi.n64
  clear hd hi
  go_enter Tryz.func9, Tryz.ntmps9
  go_upto_region 1 with fail
  generalize hWW : (((((w.alloc (.cells #[.slice A l.length cap, .slice FA p.length fcp] 36)).alloc (.cells #[.int .i64 i.id, .int .i64 i.mult, .int .i64 i.price, .int .i64 i.nxt, .slice IA i.mv.length IC] 26)).alloc (.cells #[.int .i64 fa, .int .i64 fc] 28)).alloc (.cells #[.int .i64 ta, .int .i64 tc] 28)).alloc (.cells #[.slice none 0 0, .slice none 0 0] 36)) = W at *
  clear hWW
  have HC : Hid (∀ V, Below W.heap.size W V → (V.cell? ⟨w.heap.size, 0, none⟩ = some (.slice A l.length cap) ∧ V.cell? ⟨w.heap.size, 1, none⟩ = some (.slice FA p.length fcp)) ∧ (V.cell? ⟨w.heap.size + 1, 0, none⟩ = some (.int .i64 i.id) ∧ V.cell? ⟨w.heap.size + 1, 1, none⟩ = some (.int .i64 i.mult) ∧ V.cell? ⟨w.heap.size + 1, 2, none⟩ = some (.int .i64 i.price) ∧ V.cell? ⟨w.heap.size + 1, 3, none⟩ = some (.int .i64 i.nxt) ∧ V.cell? ⟨w.heap.size + 1, 4, none⟩ = some (.slice IA i.mv.length IC)) ∧ (V.cell? ⟨w.heap.size + 1 + 1, 0, none⟩ = some (.int .i64 fa) ∧ V.cell? ⟨w.heap.size + 1 + 1, 1, none⟩ = some (.int .i64 fc)) ∧ (V.cell? ⟨w.heap.size + 1 + 1 + 1, 0, none⟩ = some (.int .i64 ta) ∧ V.cell? ⟨w.heap.size + 1 + 1 + 1, 1, none⟩ = some (.int .i64 tc))) := Lib.hid fun V h => ⟨⟨(K0.below h).2 0, (K0.below h).2 1⟩, ⟨(K1.below h).2 0, (K1.below h).2 1, (K1.below h).2 2, (K1.below h).2 3, (K1.below h).2 4⟩, ⟨(K2.below h).2 0, (K2.below h).2 1⟩, ⟨(K3.below h).2 0, (K3.below h).2 1⟩⟩
  have HX : Hid (∀ V, Below W.heap.size W V → DB V (w.heap.size + 1 + 1 + 1 + 1)) := Lib.hid fun V h => X.below h
  have HW : Hid (∀ V, Below W.heap.size W V → Below w.heap.size w V) := Lib.hid fun V h => hB0.trans (h.mono hB0.size)
  have hC := Below.refl W.heap.size W
  clear K0 K1 K2 K3 X hB0
  have HIS := fun V (h : Below w.heap.size w V) => rdis_any A cap l cs FA fcp p V (by omega) (fun g hg => Nat.le_trans (hcl g hg) (by omega)) (by omega) (hBW.out V h)
  rw [h1, h2, Bool.and_self] at HIS
  have HIS := Lib.hid HIS
  have HR := Lib.hid (dealR_arg (fa := fa) (fc := fc) (ta := ta) (tc := tc) h1 h2 h3)
  by_cases g1 : okB i = true
  · have hRI := fun V (h : Below w.heap.size w V) => ris_any i IA IC V (hIW.out V h)
    rw [g1] at hRI
    unfold insV at hRI
    have HRI := Lib.hid hRI
    clear hRI
    by_cases g2 : pr < 0
    · have b1 : decide (pr < 0) = true := decide_eq_true g2
      clear h3 g1 g2
      obtain ⟨⟨d0, d1⟩, ⟨i0, i1, i2, i3, i4⟩, ⟨f0, f1⟩, ⟨u0, u1⟩⟩ := HC.out _ hC
      go_wp2_with fail
      refine (HIS.out _ (HW.out _ hC)).mono ?_
      rintro e z1 ⟨rfl, hb⟩
      have hC := since_step hC hb
      clear hb
      clear d0 d1 i0 i1 i2 i3 i4 f0 f1 u0 u1
      obtain ⟨⟨d0, d1⟩, ⟨i0, i1, i2, i3, i4⟩, ⟨f0, f1⟩, ⟨u0, u1⟩⟩ := HC.out _ hC
      go_wp2_with fail
      refine (HRI.out _ (HW.out _ hC)).mono ?_
      rintro e z2 ⟨rfl, hb⟩
      have hC := since_step hC hb
      clear hb
      clear d0 d1 i0 i1 i2 i3 i4 f0 f1 u0 u1
      obtain ⟨⟨d0, d1⟩, ⟨i0, i1, i2, i3, i4⟩, ⟨f0, f1⟩, ⟨u0, u1⟩⟩ := HC.out _ hC
      obtain ⟨x0, x1, x2, x3, x4⟩ := (HX.out _ hC).got
      have hBn := HW.out _ hC
      have hcs := @cell_set
      go_wp2_with fail
      refine bodyPost_ret (v := .tuple #[.agg #[.slice none 0 0, .slice none 0 0], .int .i64 (2)]) ?_ rfl ⟨?_, ?_⟩
      · simp [results, Tryz.results9, go_sem, x0, x1, x2, hcs]
      · rw [HR.out]; exact DRes.nil _ _
      · repeat' (first | with_reducible exact hBn | with_reducible refine Below.setCell ?_ ?_ _ | with_reducible refine Below.alloc ?_ ?_ _)
        all_goals first | (simp; done) | (simp; omega)
    · have b1 : decide (pr < 0) = false := decide_eq_false g2
      by_cases g3 : 2147483647 < pr
      · have b2 : decide (2147483647 < pr) = true := decide_eq_true g3
        clear h3 g1 g2 g3
        obtain ⟨⟨d0, d1⟩, ⟨i0, i1, i2, i3, i4⟩, ⟨f0, f1⟩, ⟨u0, u1⟩⟩ := HC.out _ hC
        go_wp2_with fail
        refine (HIS.out _ (HW.out _ hC)).mono ?_
        rintro e z1 ⟨rfl, hb⟩
        have hC := since_step hC hb
        clear hb
        clear d0 d1 i0 i1 i2 i3 i4 f0 f1 u0 u1
        obtain ⟨⟨d0, d1⟩, ⟨i0, i1, i2, i3, i4⟩, ⟨f0, f1⟩, ⟨u0, u1⟩⟩ := HC.out _ hC
        go_wp2_with fail
        refine (HRI.out _ (HW.out _ hC)).mono ?_
        rintro e z2 ⟨rfl, hb⟩
        have hC := since_step hC hb
        clear hb
        clear d0 d1 i0 i1 i2 i3 i4 f0 f1 u0 u1
        obtain ⟨⟨d0, d1⟩, ⟨i0, i1, i2, i3, i4⟩, ⟨f0, f1⟩, ⟨u0, u1⟩⟩ := HC.out _ hC
        obtain ⟨x0, x1, x2, x3, x4⟩ := (HX.out _ hC).got
        have hBn := HW.out _ hC
        have hcs := @cell_set
        go_wp2_with fail
        refine bodyPost_ret (v := .tuple #[.agg #[.slice none 0 0, .slice none 0 0], .int .i64 (2)]) ?_ rfl ⟨?_, ?_⟩
        · simp [results, Tryz.results9, go_sem, x0, x1, x2, hcs]
        · rw [HR.out]; exact DRes.nil _ _
        · repeat' (first | with_reducible exact hBn | with_reducible refine Below.setCell ?_ ?_ _ | with_reducible refine Below.alloc ?_ ?_ _)
          all_goals first | (simp; done) | (simp; omega)
      · have b2 : decide (2147483647 < pr) = false := decide_eq_false g3
        by_cases g4 : q = 0
        · have b3 : (q == 0) = true := by simpa using g4
          clear h3 g1 g2 g3 g4
          obtain ⟨⟨d0, d1⟩, ⟨i0, i1, i2, i3, i4⟩, ⟨f0, f1⟩, ⟨u0, u1⟩⟩ := HC.out _ hC
          go_wp2_with fail
          refine (HIS.out _ (HW.out _ hC)).mono ?_
          rintro e z1 ⟨rfl, hb⟩
          have hC := since_step hC hb
          clear hb
          clear d0 d1 i0 i1 i2 i3 i4 f0 f1 u0 u1
          obtain ⟨⟨d0, d1⟩, ⟨i0, i1, i2, i3, i4⟩, ⟨f0, f1⟩, ⟨u0, u1⟩⟩ := HC.out _ hC
          go_wp2_with fail
          refine (HRI.out _ (HW.out _ hC)).mono ?_
          rintro e z2 ⟨rfl, hb⟩
          have hC := since_step hC hb
          clear hb
          clear d0 d1 i0 i1 i2 i3 i4 f0 f1 u0 u1
          obtain ⟨⟨d0, d1⟩, ⟨i0, i1, i2, i3, i4⟩, ⟨f0, f1⟩, ⟨u0, u1⟩⟩ := HC.out _ hC
          obtain ⟨x0, x1, x2, x3, x4⟩ := (HX.out _ hC).got
          have hBn := HW.out _ hC
          have hcs := @cell_set
          go_wp2_with fail
          refine bodyPost_ret (v := .tuple #[.agg #[.slice none 0 0, .slice none 0 0], .int .i64 (2)]) ?_ rfl ⟨?_, ?_⟩
          · simp [results, Tryz.results9, go_sem, x0, x1, x2, hcs]
          · rw [HR.out]; exact DRes.nil _ _
          · repeat' (first | with_reducible exact hBn | with_reducible refine Below.setCell ?_ ?_ _ | with_reducible refine Below.alloc ?_ ?_ _)
            all_goals first | (simp; done) | (simp; omega)
        · have b3 : (q == 0) = false := by simpa using g4
          by_cases g5 : q < -1099511627776
          · have b4 : decide (q < -1099511627776) = true := decide_eq_true g5
            clear h3 g1 g2 g3 g4 g5
            obtain ⟨⟨d0, d1⟩, ⟨i0, i1, i2, i3, i4⟩, ⟨f0, f1⟩, ⟨u0, u1⟩⟩ := HC.out _ hC
            go_wp2_with fail
            refine (HIS.out _ (HW.out _ hC)).mono ?_
            rintro e z1 ⟨rfl, hb⟩
            have hC := since_step hC hb
            clear hb
            clear d0 d1 i0 i1 i2 i3 i4 f0 f1 u0 u1
            obtain ⟨⟨d0, d1⟩, ⟨i0, i1, i2, i3, i4⟩, ⟨f0, f1⟩, ⟨u0, u1⟩⟩ := HC.out _ hC
            go_wp2_with fail
            refine (HRI.out _ (HW.out _ hC)).mono ?_
            rintro e z2 ⟨rfl, hb⟩
            have hC := since_step hC hb
            clear hb
            clear d0 d1 i0 i1 i2 i3 i4 f0 f1 u0 u1
            obtain ⟨⟨d0, d1⟩, ⟨i0, i1, i2, i3, i4⟩, ⟨f0, f1⟩, ⟨u0, u1⟩⟩ := HC.out _ hC
            obtain ⟨x0, x1, x2, x3, x4⟩ := (HX.out _ hC).got
            have hBn := HW.out _ hC
            have hcs := @cell_set
            go_wp2_with fail
            refine bodyPost_ret (v := .tuple #[.agg #[.slice none 0 0, .slice none 0 0], .int .i64 (2)]) ?_ rfl ⟨?_, ?_⟩
            · simp [results, Tryz.results9, go_sem, x0, x1, x2, hcs]
            · rw [HR.out]; exact DRes.nil _ _
            · repeat' (first | with_reducible exact hBn | with_reducible refine Below.setCell ?_ ?_ _ | with_reducible refine Below.alloc ?_ ?_ _)
              all_goals first | (simp; done) | (simp; omega)
          · have b4 : decide (q < -1099511627776) = false := decide_eq_false g5
            by_cases g6 : 1099511627776 < q
            · have b5 : decide (1099511627776 < q) = true := decide_eq_true g6
              clear h3 g1 g2 g3 g4 g5 g6
              obtain ⟨⟨d0, d1⟩, ⟨i0, i1, i2, i3, i4⟩, ⟨f0, f1⟩, ⟨u0, u1⟩⟩ := HC.out _ hC
              go_wp2_with fail
              refine (HIS.out _ (HW.out _ hC)).mono ?_
              rintro e z1 ⟨rfl, hb⟩
              have hC := since_step hC hb
              clear hb
              clear d0 d1 i0 i1 i2 i3 i4 f0 f1 u0 u1
              obtain ⟨⟨d0, d1⟩, ⟨i0, i1, i2, i3, i4⟩, ⟨f0, f1⟩, ⟨u0, u1⟩⟩ := HC.out _ hC
              go_wp2_with fail
              refine (HRI.out _ (HW.out _ hC)).mono ?_
              rintro e z2 ⟨rfl, hb⟩
              have hC := since_step hC hb
              clear hb
              clear d0 d1 i0 i1 i2 i3 i4 f0 f1 u0 u1
              obtain ⟨⟨d0, d1⟩, ⟨i0, i1, i2, i3, i4⟩, ⟨f0, f1⟩, ⟨u0, u1⟩⟩ := HC.out _ hC
              obtain ⟨x0, x1, x2, x3, x4⟩ := (HX.out _ hC).got
              have hBn := HW.out _ hC
              have hcs := @cell_set
              go_wp2_with fail
              refine bodyPost_ret (v := .tuple #[.agg #[.slice none 0 0, .slice none 0 0], .int .i64 (2)]) ?_ rfl ⟨?_, ?_⟩
              · simp [results, Tryz.results9, go_sem, x0, x1, x2, hcs]
              · rw [HR.out]; exact DRes.nil _ _
              · repeat' (first | with_reducible exact hBn | with_reducible refine Below.setCell ?_ ?_ _ | with_reducible refine Below.alloc ?_ ?_ _)
                all_goals first | (simp; done) | (simp; omega)
            · exact absurd ((dchk_iff i q pr).2 ⟨g1, (by unfold prB; simp only [Bool.and_eq_true, decide_eq_true_eq]; omega), g4, by omega, by omega⟩) (by rw [h3]; simp)
  · have hRI := fun V (h : Below w.heap.size w V) => ris_any i IA IC V (hIW.out V h)
    rw [show okB i = false by simpa using g1] at hRI
    unfold insV at hRI
    have HRI := Lib.hid hRI
    clear hRI
    clear h3 g1
    obtain ⟨⟨d0, d1⟩, ⟨i0, i1, i2, i3, i4⟩, ⟨f0, f1⟩, ⟨u0, u1⟩⟩ := HC.out _ hC
    go_wp2_with fail
    refine (HIS.out _ (HW.out _ hC)).mono ?_
    rintro e z1 ⟨rfl, hb⟩
    have hC := since_step hC hb
    clear hb
    clear d0 d1 i0 i1 i2 i3 i4 f0 f1 u0 u1
    obtain ⟨⟨d0, d1⟩, ⟨i0, i1, i2, i3, i4⟩, ⟨f0, f1⟩, ⟨u0, u1⟩⟩ := HC.out _ hC
    go_wp2_with fail
    refine (HRI.out _ (HW.out _ hC)).mono ?_
    rintro e z2 ⟨rfl, hb⟩
    have hC := since_step hC hb
    clear hb
    clear d0 d1 i0 i1 i2 i3 i4 f0 f1 u0 u1
    obtain ⟨⟨d0, d1⟩, ⟨i0, i1, i2, i3, i4⟩, ⟨f0, f1⟩, ⟨u0, u1⟩⟩ := HC.out _ hC
    obtain ⟨x0, x1, x2, x3, x4⟩ := (HX.out _ hC).got
    have hBn := HW.out _ hC
    have hcs := @cell_set
    go_wp2_with fail
    refine bodyPost_ret (v := .tuple #[.agg #[.slice none 0 0, .slice none 0 0], .int .i64 (2)]) ?_ rfl ⟨?_, ?_⟩
    · simp [results, Tryz.results9, go_sem, x0, x1, x2, hcs]
    · rw [HR.out]; exact DRes.nil _ _
    · repeat' (first | with_reducible exact hBn | with_reducible refine Below.setCell ?_ ?_ _ | with_reducible refine Below.alloc ?_ ?_ _)
      all_goals first | (simp; done) | (simp; omega)
set_option maxHeartbeats 16000000 in
set_option maxRecDepth 100000 in
theorem rdat_C (A : Option Addr) (cap : Nat) (l : List Po) (cs : List Pc) (FA : Option Addr) (fcp : Nat) (p : List Fw) (i : Ins) (IA : Option Addr) (IC : Nat) (fa fc ta tc q pr : Int) (w : World) (hl : l.length ≤ 800000) (hcl : ∀ g ∈ cs, g.L.length ≤ 400000) (h6 : ∀ g ∈ cs, ∀ y ∈ g.L, In64 y.qty) (hpn : p.length ≤ 40000) (hpi : ∀ x ∈ p, Fw.in_ x) (hu : In64 fa ∧ In64 fc ∧ In64 ta ∧ In64 tc) (hq : In64 q) (hpr : In64 pr) (hd : Dk w A l cs FA p) (hi : InsAt w i IA IC) (h1 : isH cs = true) (h2 : isF p = true) (h3 : dchk i q pr = true) (h4 : fa = ta ∧ fc = tc) :
    Calls Tryz.prog 9 #[.agg #[.slice A l.length cap, .slice FA p.length fcp], insV i IA IC, .agg #[.int .i64 fa, .int .i64 fc], .agg #[.int .i64 ta, .int .i64 tc], .int .i64 q, .int .i64 pr] w fun e w' => DRes w' e (dealR cs p i fa fc ta tc q pr).1 (dealR cs p i fa fc ta tc q pr).2.1 (dealR cs p i fa fc ta tc q pr).2.2 ∧ Below w.heap.size w w' := by
  have H4 := Lib.hid h4
  clear h4
  have hB0 := since_alloc (since_alloc (since_alloc (since_alloc (since_alloc (Below.refl _ w) (.cells #[.slice A l.length cap, .slice FA p.length fcp] 36)) (.cells #[.int .i64 i.id, .int .i64 i.mult, .int .i64 i.price, .int .i64 i.nxt, .slice IA i.mv.length IC] 26)) (.cells #[.int .i64 fa, .int .i64 fc] 28)) (.cells #[.int .i64 ta, .int .i64 tc] 28)) (.cells #[.slice none 0 0, .slice none 0 0] 36)
  have K0 := (((((Bk.new w #[.slice A l.length cap, .slice FA p.length fcp] 36).alloc (.cells #[.int .i64 i.id, .int .i64 i.mult, .int .i64 i.price, .int .i64 i.nxt, .slice IA i.mv.length IC] 26)).alloc (.cells #[.int .i64 fa, .int .i64 fc] 28)).alloc (.cells #[.int .i64 ta, .int .i64 tc] 28)).alloc (.cells #[.slice none 0 0, .slice none 0 0] 36))
  have K1 := ((((Bk.new (w.alloc (.cells #[.slice A l.length cap, .slice FA p.length fcp] 36)) #[.int .i64 i.id, .int .i64 i.mult, .int .i64 i.price, .int .i64 i.nxt, .slice IA i.mv.length IC] 26).alloc (.cells #[.int .i64 fa, .int .i64 fc] 28)).alloc (.cells #[.int .i64 ta, .int .i64 tc] 28)).alloc (.cells #[.slice none 0 0, .slice none 0 0] 36))
  rw [World.size_alloc] at K1
  have K2 := (((Bk.new ((w.alloc (.cells #[.slice A l.length cap, .slice FA p.length fcp] 36)).alloc (.cells #[.int .i64 i.id, .int .i64 i.mult, .int .i64 i.price, .int .i64 i.nxt, .slice IA i.mv.length IC] 26)) #[.int .i64 fa, .int .i64 fc] 28).alloc (.cells #[.int .i64 ta, .int .i64 tc] 28)).alloc (.cells #[.slice none 0 0, .slice none 0 0] 36))
  rw [World.size_alloc, World.size_alloc] at K2
  have K3 := ((Bk.new (((w.alloc (.cells #[.slice A l.length cap, .slice FA p.length fcp] 36)).alloc (.cells #[.int .i64 i.id, .int .i64 i.mult, .int .i64 i.price, .int .i64 i.nxt, .slice IA i.mv.length IC] 26)).alloc (.cells #[.int .i64 fa, .int .i64 fc] 28)) #[.int .i64 ta, .int .i64 tc] 28).alloc (.cells #[.slice none 0 0, .slice none 0 0] 36))
  rw [World.size_alloc, World.size_alloc, World.size_alloc] at K3
  have X := DB.new ((((w.alloc (.cells #[.slice A l.length cap, .slice FA p.length fcp] 36)).alloc (.cells #[.int .i64 i.id, .int .i64 i.mult, .int .i64 i.price, .int .i64 i.nxt, .slice IA i.mv.length IC] 26)).alloc (.cells #[.int .i64 fa, .int .i64 fc] 28)).alloc (.cells #[.int .i64 ta, .int .i64 tc] 28)) 36
  rw [World.size_alloc, World.size_alloc, World.size_alloc, World.size_alloc] at X
  have hBW : Hid (∀ V, Below w.heap.size w V → Dk V A l cs FA p) := Lib.hid fun V h => hd.below h
  have hIW : Hid (∀ V, Below w.heap.size w V → InsAt V i IA IC) := Lib.hid fun V h => hi.below h
  unfold insV
  have hi6 := hi.n64
  clear hd hi
  go_enter Tryz.func9, Tryz.ntmps9
  go_upto_region 1 with fail
  generalize hWW : (((((w.alloc (.cells #[.slice A l.length cap, .slice FA p.length fcp] 36)).alloc (.cells #[.int .i64 i.id, .int .i64 i.mult, .int .i64 i.price, .int .i64 i.nxt, .slice IA i.mv.length IC] 26)).alloc (.cells #[.int .i64 fa, .int .i64 fc] 28)).alloc (.cells #[.int .i64 ta, .int .i64 tc] 28)).alloc (.cells #[.slice none 0 0, .slice none 0 0] 36)) = W at *
  clear hWW
  have HC : Hid (∀ V, Below W.heap.size W V → (V.cell? ⟨w.heap.size, 0, none⟩ = some (.slice A l.length cap) ∧ V.cell? ⟨w.heap.size, 1, none⟩ = some (.slice FA p.length fcp)) ∧ (V.cell? ⟨w.heap.size + 1, 0, none⟩ = some (.int .i64 i.id) ∧ V.cell? ⟨w.heap.size + 1, 1, none⟩ = some (.int .i64 i.mult) ∧ V.cell? ⟨w.heap.size + 1, 2, none⟩ = some (.int .i64 i.price) ∧ V.cell? ⟨w.heap.size + 1, 3, none⟩ = some (.int .i64 i.nxt) ∧ V.cell? ⟨w.heap.size + 1, 4, none⟩ = some (.slice IA i.mv.length IC)) ∧ (V.cell? ⟨w.heap.size + 1 + 1, 0, none⟩ = some (.int .i64 fa) ∧ V.cell? ⟨w.heap.size + 1 + 1, 1, none⟩ = some (.int .i64 fc)) ∧ (V.cell? ⟨w.heap.size + 1 + 1 + 1, 0, none⟩ = some (.int .i64 ta) ∧ V.cell? ⟨w.heap.size + 1 + 1 + 1, 1, none⟩ = some (.int .i64 tc))) := Lib.hid fun V h => ⟨⟨(K0.below h).2 0, (K0.below h).2 1⟩, ⟨(K1.below h).2 0, (K1.below h).2 1, (K1.below h).2 2, (K1.below h).2 3, (K1.below h).2 4⟩, ⟨(K2.below h).2 0, (K2.below h).2 1⟩, ⟨(K3.below h).2 0, (K3.below h).2 1⟩⟩
  have HX : Hid (∀ V, Below W.heap.size W V → DB V (w.heap.size + 1 + 1 + 1 + 1)) := Lib.hid fun V h => X.below h
  have HW : Hid (∀ V, Below W.heap.size W V → Below w.heap.size w V) := Lib.hid fun V h => hB0.trans (h.mono hB0.size)
  have hC := Below.refl W.heap.size W
  clear K0 K1 K2 K3 X hB0
  have HIS := fun V (h : Below w.heap.size w V) => rdis_any A cap l cs FA fcp p V (by omega) (fun g hg => Nat.le_trans (hcl g hg) (by omega)) (by omega) (hBW.out V h)
  rw [h1, h2, Bool.and_self] at HIS
  have HIS := Lib.hid HIS
  have hok := (dchk_iff i q pr).1 h3
  have hg2 := hok.2.1
  unfold prB at hg2
  simp only [Bool.and_eq_true, decide_eq_true_eq] at hg2
  have hRI := fun V (h : Below w.heap.size w V) => ris_any i IA IC V (hIW.out V h)
  rw [hok.1] at hRI
  unfold insV at hRI
  have HRI := Lib.hid hRI
  clear hRI
  have c1 : decide (pr < 0) = false := decide_eq_false (by omega)
  have c2 : decide (2147483647 < pr) = false := decide_eq_false (by omega)
  have c3 : (q == 0) = false := by simpa using hok.2.2.1
  have c4 : decide (q < -1099511627776) = false := decide_eq_false (by omega)
  have c5 : decide (1099511627776 < q) = false := decide_eq_false (by omega)
  clear hok hg2
  have HR := Lib.hid (dealR_same h1 h2 h3 H4.out)
  have b1 : (fa == ta) = true := by simpa using H4.out.1
  have b2 : (fc == tc) = true := by simpa using H4.out.2
  clear h1 h2 h3 H4
  obtain ⟨⟨d0, d1⟩, ⟨i0, i1, i2, i3, i4⟩, ⟨f0, f1⟩, ⟨u0, u1⟩⟩ := HC.out _ hC
  go_wp2_with fail
  refine (HIS.out _ (HW.out _ hC)).mono ?_
  rintro e z1 ⟨rfl, hb⟩
  have hC := since_step hC hb
  clear hb
  clear d0 d1 i0 i1 i2 i3 i4 f0 f1 u0 u1
  obtain ⟨⟨d0, d1⟩, ⟨i0, i1, i2, i3, i4⟩, ⟨f0, f1⟩, ⟨u0, u1⟩⟩ := HC.out _ hC
  go_wp2_with fail
  refine (HRI.out _ (HW.out _ hC)).mono ?_
  rintro e z2 ⟨rfl, hb⟩
  have hC := since_step hC hb
  clear hb
  clear d0 d1 i0 i1 i2 i3 i4 f0 f1 u0 u1
  obtain ⟨⟨d0, d1⟩, ⟨i0, i1, i2, i3, i4⟩, ⟨f0, f1⟩, ⟨u0, u1⟩⟩ := HC.out _ hC
  obtain ⟨x0, x1, x2, x3, x4⟩ := (HX.out _ hC).got
  have hBn := HW.out _ hC
  have hcs := @cell_set
  go_wp2_with fail
  refine bodyPost_ret (v := .tuple #[.agg #[.slice none 0 0, .slice none 0 0], .int .i64 (24)]) ?_ rfl ⟨?_, ?_⟩
  · simp [results, Tryz.results9, go_sem, x0, x1, x2, hcs]
  · rw [HR.out]; exact DRes.nil _ _
  · repeat' (first | with_reducible exact hBn | with_reducible refine Below.setCell ?_ ?_ _ | with_reducible refine Below.alloc ?_ ?_ _)
    all_goals first | (simp; done) | (simp; omega)
set_option maxHeartbeats 16000000 in
set_option maxRecDepth 100000 in
theorem rdat_D0 (A : Option Addr) (cap : Nat) (l : List Po) (cs : List Pc) (FA : Option Addr) (fcp : Nat) (p : List Fw) (i : Ins) (IA : Option Addr) (IC : Nat) (fa fc ta tc q pr : Int) (w : World) (hl : l.length ≤ 800000) (hcl : ∀ g ∈ cs, g.L.length ≤ 400000) (h6 : ∀ g ∈ cs, ∀ y ∈ g.L, In64 y.qty) (hpn : p.length ≤ 40000) (hpi : ∀ x ∈ p, Fw.in_ x) (hu : In64 fa ∧ In64 fc ∧ In64 ta ∧ In64 tc) (hq : In64 q) (hpr : In64 pr) (hd : Dk w A l cs FA p) (hi : InsAt w i IA IC) (h1 : isH cs = true) (h2 : isF p = true) (h3 : dchk i q pr = true) (h4 : ¬ (fa = ta ∧ fc = tc))  (h5 : ¬ In64 (gainZ i q pr i.price)) :
    Calls Tryz.prog 9 #[.agg #[.slice A l.length cap, .slice FA p.length fcp], insV i IA IC, .agg #[.int .i64 fa, .int .i64 fc], .agg #[.int .i64 ta, .int .i64 tc], .int .i64 q, .int .i64 pr] w fun e w' => DRes w' e (dealR cs p i fa fc ta tc q pr).1 (dealR cs p i fa fc ta tc q pr).2.1 (dealR cs p i fa fc ta tc q pr).2.2 ∧ Below w.heap.size w w' := by
  have hB0 := since_alloc (since_alloc (since_alloc (since_alloc (since_alloc (Below.refl _ w) (.cells #[.slice A l.length cap, .slice FA p.length fcp] 36)) (.cells #[.int .i64 i.id, .int .i64 i.mult, .int .i64 i.price, .int .i64 i.nxt, .slice IA i.mv.length IC] 26)) (.cells #[.int .i64 fa, .int .i64 fc] 28)) (.cells #[.int .i64 ta, .int .i64 tc] 28)) (.cells #[.slice none 0 0, .slice none 0 0] 36)
  have K0 := (((((Bk.new w #[.slice A l.length cap, .slice FA p.length fcp] 36).alloc (.cells #[.int .i64 i.id, .int .i64 i.mult, .int .i64 i.price, .int .i64 i.nxt, .slice IA i.mv.length IC] 26)).alloc (.cells #[.int .i64 fa, .int .i64 fc] 28)).alloc (.cells #[.int .i64 ta, .int .i64 tc] 28)).alloc (.cells #[.slice none 0 0, .slice none 0 0] 36))
  have K1 := ((((Bk.new (w.alloc (.cells #[.slice A l.length cap, .slice FA p.length fcp] 36)) #[.int .i64 i.id, .int .i64 i.mult, .int .i64 i.price, .int .i64 i.nxt, .slice IA i.mv.length IC] 26).alloc (.cells #[.int .i64 fa, .int .i64 fc] 28)).alloc (.cells #[.int .i64 ta, .int .i64 tc] 28)).alloc (.cells #[.slice none 0 0, .slice none 0 0] 36))
  rw [World.size_alloc] at K1
  have K2 := (((Bk.new ((w.alloc (.cells #[.slice A l.length cap, .slice FA p.length fcp] 36)).alloc (.cells #[.int .i64 i.id, .int .i64 i.mult, .int .i64 i.price, .int .i64 i.nxt, .slice IA i.mv.length IC] 26)) #[.int .i64 fa, .int .i64 fc] 28).alloc (.cells #[.int .i64 ta, .int .i64 tc] 28)).alloc (.cells #[.slice none 0 0, .slice none 0 0] 36))
  rw [World.size_alloc, World.size_alloc] at K2
  have K3 := ((Bk.new (((w.alloc (.cells #[.slice A l.length cap, .slice FA p.length fcp] 36)).alloc (.cells #[.int .i64 i.id, .int .i64 i.mult, .int .i64 i.price, .int .i64 i.nxt, .slice IA i.mv.length IC] 26)).alloc (.cells #[.int .i64 fa, .int .i64 fc] 28)) #[.int .i64 ta, .int .i64 tc] 28).alloc (.cells #[.slice none 0 0, .slice none 0 0] 36))
  rw [World.size_alloc, World.size_alloc, World.size_alloc] at K3
  have X := DB.new ((((w.alloc (.cells #[.slice A l.length cap, .slice FA p.length fcp] 36)).alloc (.cells #[.int .i64 i.id, .int .i64 i.mult, .int .i64 i.price, .int .i64 i.nxt, .slice IA i.mv.length IC] 26)).alloc (.cells #[.int .i64 fa, .int .i64 fc] 28)).alloc (.cells #[.int .i64 ta, .int .i64 tc] 28)) 36
  rw [World.size_alloc, World.size_alloc, World.size_alloc, World.size_alloc] at X
  have hBW : Hid (∀ V, Below w.heap.size w V → Dk V A l cs FA p) := Lib.hid fun V h => hd.below h
  have hIW : Hid (∀ V, Below w.heap.size w V → InsAt V i IA IC) := Lib.hid fun V h => hi.below h
  unfold insV
  have hi6 := hi.n64
  clear hd hi
  go_enter Tryz.func9, Tryz.ntmps9
  go_upto_region 1 with fail
  generalize hWW : (((((w.alloc (.cells #[.slice A l.length cap, .slice FA p.length fcp] 36)).alloc (.cells #[.int .i64 i.id, .int .i64 i.mult, .int .i64 i.price, .int .i64 i.nxt, .slice IA i.mv.length IC] 26)).alloc (.cells #[.int .i64 fa, .int .i64 fc] 28)).alloc (.cells #[.int .i64 ta, .int .i64 tc] 28)).alloc (.cells #[.slice none 0 0, .slice none 0 0] 36)) = W at *
  clear hWW
  have HC : Hid (∀ V, Below W.heap.size W V → (V.cell? ⟨w.heap.size, 0, none⟩ = some (.slice A l.length cap) ∧ V.cell? ⟨w.heap.size, 1, none⟩ = some (.slice FA p.length fcp)) ∧ (V.cell? ⟨w.heap.size + 1, 0, none⟩ = some (.int .i64 i.id) ∧ V.cell? ⟨w.heap.size + 1, 1, none⟩ = some (.int .i64 i.mult) ∧ V.cell? ⟨w.heap.size + 1, 2, none⟩ = some (.int .i64 i.price) ∧ V.cell? ⟨w.heap.size + 1, 3, none⟩ = some (.int .i64 i.nxt) ∧ V.cell? ⟨w.heap.size + 1, 4, none⟩ = some (.slice IA i.mv.length IC)) ∧ (V.cell? ⟨w.heap.size + 1 + 1, 0, none⟩ = some (.int .i64 fa) ∧ V.cell? ⟨w.heap.size + 1 + 1, 1, none⟩ = some (.int .i64 fc)) ∧ (V.cell? ⟨w.heap.size + 1 + 1 + 1, 0, none⟩ = some (.int .i64 ta) ∧ V.cell? ⟨w.heap.size + 1 + 1 + 1, 1, none⟩ = some (.int .i64 tc))) := Lib.hid fun V h => ⟨⟨(K0.below h).2 0, (K0.below h).2 1⟩, ⟨(K1.below h).2 0, (K1.below h).2 1, (K1.below h).2 2, (K1.below h).2 3, (K1.below h).2 4⟩, ⟨(K2.below h).2 0, (K2.below h).2 1⟩, ⟨(K3.below h).2 0, (K3.below h).2 1⟩⟩
  have HX : Hid (∀ V, Below W.heap.size W V → DB V (w.heap.size + 1 + 1 + 1 + 1)) := Lib.hid fun V h => X.below h
  have HW : Hid (∀ V, Below W.heap.size W V → Below w.heap.size w V) := Lib.hid fun V h => hB0.trans (h.mono hB0.size)
  have hC := Below.refl W.heap.size W
  clear K0 K1 K2 K3 X hB0
  have HIS := fun V (h : Below w.heap.size w V) => rdis_any A cap l cs FA fcp p V (by omega) (fun g hg => Nat.le_trans (hcl g hg) (by omega)) (by omega) (hBW.out V h)
  rw [h1, h2, Bool.and_self] at HIS
  have HIS := Lib.hid HIS
  have hok := (dchk_iff i q pr).1 h3
  have hg2 := hok.2.1
  unfold prB at hg2
  simp only [Bool.and_eq_true, decide_eq_true_eq] at hg2
  have hRI := fun V (h : Below w.heap.size w V) => ris_any i IA IC V (hIW.out V h)
  rw [hok.1] at hRI
  unfold insV at hRI
  have HRI := Lib.hid hRI
  clear hRI
  have c1 : decide (pr < 0) = false := decide_eq_false (by omega)
  have c2 : decide (2147483647 < pr) = false := decide_eq_false (by omega)
  have c3 : (q == 0) = false := by simpa using hok.2.2.1
  have c4 : decide (q < -1099511627776) = false := decide_eq_false (by omega)
  have c5 : decide (1099511627776 < q) = false := decide_eq_false (by omega)
  clear hok hg2
  have h128 := gain_128 h3 hq
  have hGN := fun V (h : Below w.heap.size w V) => rgain_any i IA IC q pr i.price V (hIW.out V h) hq hpr hi6.2.2.1
  rw [gain_turnD] at hGN
  unfold insV at hGN
  have HGN := Lib.hid hGN
  have H128 := Lib.hid h128
  clear hGN h128
  have hFT := fun s A n c V (h : n ≤ 100000) hx => bfits_any (gainZ i q pr i.price) s A n c V h hx
  rw [show decide (inN (gainZ i q pr i.price) 63) = false from decide_eq_false fun h => h5 ((in64_iff _).1 h)] at hFT
  have HFT := Lib.hid hFT
  clear hFT
  have HR := Lib.hid (dealR_far h1 h2 h3 h4 h5)
  have H4 := Lib.hid h4
  clear h1 h2 h3 h4 h5
  generalize gainZ i q pr i.price = gz at *
  obtain ⟨⟨d0, d1⟩, ⟨i0, i1, i2, i3, i4⟩, ⟨f0, f1⟩, ⟨u0, u1⟩⟩ := HC.out _ hC
  go_wp2_with fail
  refine (HIS.out _ (HW.out _ hC)).mono ?_
  rintro e z1 ⟨rfl, hb⟩
  have hC := since_step hC hb
  clear hb
  clear d0 d1 i0 i1 i2 i3 i4 f0 f1 u0 u1
  obtain ⟨⟨d0, d1⟩, ⟨i0, i1, i2, i3, i4⟩, ⟨f0, f1⟩, ⟨u0, u1⟩⟩ := HC.out _ hC
  go_wp2_with fail
  refine (HRI.out _ (HW.out _ hC)).mono ?_
  rintro e z2 ⟨rfl, hb⟩
  have hC := since_step hC hb
  clear hb
  clear d0 d1 i0 i1 i2 i3 i4 f0 f1 u0 u1
  go_upto_region 5 with fail
  go_cut [49] (fun s49 wx => s49 = .bool false ∧ Below z2.heap.size z2 wx)
  case first =>
    obtain ⟨⟨d0, d1⟩, ⟨i0, i1, i2, i3, i4⟩, ⟨f0, f1⟩, ⟨u0, u1⟩⟩ := HC.out _ hC
    by_cases e0 : fa = ta
    · have b1 : (fa == ta) = true := by simpa using e0
      have b2 : (fc == tc) = false := by simpa using fun h => H4.out ⟨e0, h⟩
      clear e0
      go_wp2_with fail
      go_meet
      case rel => exact ⟨rfl, Below.refl _ _⟩
    · have b1 : (fa == ta) = false := by simpa using e0
      clear e0
      go_wp2_with fail
      go_meet
      case rel => exact ⟨rfl, Below.refl _ _⟩
  case rest =>
    obtain ⟨rfl, hbx⟩ := hcut
    have hC := since_step hC hbx
    clear hbx
    obtain ⟨⟨d0, d1⟩, ⟨i0, i1, i2, i3, i4⟩, ⟨f0, f1⟩, ⟨u0, u1⟩⟩ := HC.out _ hC
    go_wp2_with fail
    refine (HGN.out _ (HW.out _ hC)).mono ?_
    rintro e z3 ⟨⟨s8, A8, n8, c8, rfl, _, D8⟩, hb⟩
    have hC := since_step hC hb
    clear hb
    clear d0 d1 i0 i1 i2 i3 i4 f0 f1 u0 u1
    have D8 := D8.alloc (.cells #[.bool s8, .slice A8 n8 c8] 50)
    have X8 := BB.new z3 s8 A8 n8 c8 50
    have hC := since_alloc hC (.cells #[.bool s8, .slice A8 n8 c8] 50)
    have L8 := D8.l128 H128.out
    obtain ⟨⟨d0, d1⟩, ⟨i0, i1, i2, i3, i4⟩, ⟨f0, f1⟩, ⟨u0, u1⟩⟩ := HC.out _ hC
    obtain ⟨b1_, b2_, b3_, b4_, b5_⟩ := id X8
    go_wp2_with fail
    refine (HFT.out _ _ _ _ _ (by omega) D8).mono ?_
    rintro e z4 ⟨rfl, hb⟩
    have hC := since_step hC hb
    have D8 := D8.below hb
    have X8 := X8.below hb
    clear hb b1_ b2_ b3_ b4_ b5_
    clear d0 d1 i0 i1 i2 i3 i4 f0 f1 u0 u1
    obtain ⟨⟨d0, d1⟩, ⟨i0, i1, i2, i3, i4⟩, ⟨f0, f1⟩, ⟨u0, u1⟩⟩ := HC.out _ hC
    obtain ⟨x0, x1, x2, x3, x4⟩ := (HX.out _ hC).got
    have hBn := HW.out _ hC
    have hcs := @cell_set
    go_wp2_with fail
    refine bodyPost_ret (v := .tuple #[.agg #[.slice none 0 0, .slice none 0 0], .int .i64 (7)]) ?_ rfl ⟨?_, ?_⟩
    · simp [results, Tryz.results9, go_sem, x0, x1, x2, hcs]
    · rw [HR.out]; exact DRes.nil _ _
    · repeat' (first | with_reducible exact hBn | with_reducible refine Below.setCell ?_ ?_ _ | with_reducible refine Below.alloc ?_ ?_ _)
      all_goals first | (simp; done) | (simp; omega)
set_option maxHeartbeats 16000000 in
set_option maxRecDepth 100000 in
theorem rdat_E0 (A : Option Addr) (cap : Nat) (l : List Po) (cs : List Pc) (FA : Option Addr) (fcp : Nat) (p : List Fw) (i : Ins) (IA : Option Addr) (IC : Nat) (fa fc ta tc q pr : Int) (w : World) (hl : l.length ≤ 800000) (hcl : ∀ g ∈ cs, g.L.length ≤ 400000) (h6 : ∀ g ∈ cs, ∀ y ∈ g.L, In64 y.qty) (hpn : p.length ≤ 40000) (hpi : ∀ x ∈ p, Fw.in_ x) (hu : In64 fa ∧ In64 fc ∧ In64 ta ∧ In64 tc) (hq : In64 q) (hpr : In64 pr) (hd : Dk w A l cs FA p) (hi : InsAt w i IA IC) (n : Int) (B : List Pc) (h1 : isH cs = true) (h2 : isF p = true) (h3 : dchk i q pr = true) (h4 : ¬ (fa = ta ∧ fc = tc))  (h5 : In64 (gainZ i q pr i.price)) (h6m : moveP cs fa fc ta tc [⟨i.id, q⟩] = (n, B)) (hn : n ≠ 0) :
    Calls Tryz.prog 9 #[.agg #[.slice A l.length cap, .slice FA p.length fcp], insV i IA IC, .agg #[.int .i64 fa, .int .i64 fc], .agg #[.int .i64 ta, .int .i64 tc], .int .i64 q, .int .i64 pr] w fun e w' => DRes w' e (dealR cs p i fa fc ta tc q pr).1 (dealR cs p i fa fc ta tc q pr).2.1 (dealR cs p i fa fc ta tc q pr).2.2 ∧ Below w.heap.size w w' := by
  have hB0 := since_alloc (since_alloc (since_alloc (since_alloc (since_alloc (Below.refl _ w) (.cells #[.slice A l.length cap, .slice FA p.length fcp] 36)) (.cells #[.int .i64 i.id, .int .i64 i.mult, .int .i64 i.price, .int .i64 i.nxt, .slice IA i.mv.length IC] 26)) (.cells #[.int .i64 fa, .int .i64 fc] 28)) (.cells #[.int .i64 ta, .int .i64 tc] 28)) (.cells #[.slice none 0 0, .slice none 0 0] 36)
  have K0 := (((((Bk.new w #[.slice A l.length cap, .slice FA p.length fcp] 36).alloc (.cells #[.int .i64 i.id, .int .i64 i.mult, .int .i64 i.price, .int .i64 i.nxt, .slice IA i.mv.length IC] 26)).alloc (.cells #[.int .i64 fa, .int .i64 fc] 28)).alloc (.cells #[.int .i64 ta, .int .i64 tc] 28)).alloc (.cells #[.slice none 0 0, .slice none 0 0] 36))
  have K1 := ((((Bk.new (w.alloc (.cells #[.slice A l.length cap, .slice FA p.length fcp] 36)) #[.int .i64 i.id, .int .i64 i.mult, .int .i64 i.price, .int .i64 i.nxt, .slice IA i.mv.length IC] 26).alloc (.cells #[.int .i64 fa, .int .i64 fc] 28)).alloc (.cells #[.int .i64 ta, .int .i64 tc] 28)).alloc (.cells #[.slice none 0 0, .slice none 0 0] 36))
  rw [World.size_alloc] at K1
  have K2 := (((Bk.new ((w.alloc (.cells #[.slice A l.length cap, .slice FA p.length fcp] 36)).alloc (.cells #[.int .i64 i.id, .int .i64 i.mult, .int .i64 i.price, .int .i64 i.nxt, .slice IA i.mv.length IC] 26)) #[.int .i64 fa, .int .i64 fc] 28).alloc (.cells #[.int .i64 ta, .int .i64 tc] 28)).alloc (.cells #[.slice none 0 0, .slice none 0 0] 36))
  rw [World.size_alloc, World.size_alloc] at K2
  have K3 := ((Bk.new (((w.alloc (.cells #[.slice A l.length cap, .slice FA p.length fcp] 36)).alloc (.cells #[.int .i64 i.id, .int .i64 i.mult, .int .i64 i.price, .int .i64 i.nxt, .slice IA i.mv.length IC] 26)).alloc (.cells #[.int .i64 fa, .int .i64 fc] 28)) #[.int .i64 ta, .int .i64 tc] 28).alloc (.cells #[.slice none 0 0, .slice none 0 0] 36))
  rw [World.size_alloc, World.size_alloc, World.size_alloc] at K3
  have X := DB.new ((((w.alloc (.cells #[.slice A l.length cap, .slice FA p.length fcp] 36)).alloc (.cells #[.int .i64 i.id, .int .i64 i.mult, .int .i64 i.price, .int .i64 i.nxt, .slice IA i.mv.length IC] 26)).alloc (.cells #[.int .i64 fa, .int .i64 fc] 28)).alloc (.cells #[.int .i64 ta, .int .i64 tc] 28)) 36
  rw [World.size_alloc, World.size_alloc, World.size_alloc, World.size_alloc] at X
  have hBW : Hid (∀ V, Below w.heap.size w V → Dk V A l cs FA p) := Lib.hid fun V h => hd.below h
  have hIW : Hid (∀ V, Below w.heap.size w V → InsAt V i IA IC) := Lib.hid fun V h => hi.below h
  unfold insV
  have hi6 := hi.n64
  clear hd hi
  go_enter Tryz.func9, Tryz.ntmps9
  go_upto_region 1 with fail
  generalize hWW : (((((w.alloc (.cells #[.slice A l.length cap, .slice FA p.length fcp] 36)).alloc (.cells #[.int .i64 i.id, .int .i64 i.mult, .int .i64 i.price, .int .i64 i.nxt, .slice IA i.mv.length IC] 26)).alloc (.cells #[.int .i64 fa, .int .i64 fc] 28)).alloc (.cells #[.int .i64 ta, .int .i64 tc] 28)).alloc (.cells #[.slice none 0 0, .slice none 0 0] 36)) = W at *
  clear hWW
  have HC : Hid (∀ V, Below W.heap.size W V → (V.cell? ⟨w.heap.size, 0, none⟩ = some (.slice A l.length cap) ∧ V.cell? ⟨w.heap.size, 1, none⟩ = some (.slice FA p.length fcp)) ∧ (V.cell? ⟨w.heap.size + 1, 0, none⟩ = some (.int .i64 i.id) ∧ V.cell? ⟨w.heap.size + 1, 1, none⟩ = some (.int .i64 i.mult) ∧ V.cell? ⟨w.heap.size + 1, 2, none⟩ = some (.int .i64 i.price) ∧ V.cell? ⟨w.heap.size + 1, 3, none⟩ = some (.int .i64 i.nxt) ∧ V.cell? ⟨w.heap.size + 1, 4, none⟩ = some (.slice IA i.mv.length IC)) ∧ (V.cell? ⟨w.heap.size + 1 + 1, 0, none⟩ = some (.int .i64 fa) ∧ V.cell? ⟨w.heap.size + 1 + 1, 1, none⟩ = some (.int .i64 fc)) ∧ (V.cell? ⟨w.heap.size + 1 + 1 + 1, 0, none⟩ = some (.int .i64 ta) ∧ V.cell? ⟨w.heap.size + 1 + 1 + 1, 1, none⟩ = some (.int .i64 tc))) := Lib.hid fun V h => ⟨⟨(K0.below h).2 0, (K0.below h).2 1⟩, ⟨(K1.below h).2 0, (K1.below h).2 1, (K1.below h).2 2, (K1.below h).2 3, (K1.below h).2 4⟩, ⟨(K2.below h).2 0, (K2.below h).2 1⟩, ⟨(K3.below h).2 0, (K3.below h).2 1⟩⟩
  have HX : Hid (∀ V, Below W.heap.size W V → DB V (w.heap.size + 1 + 1 + 1 + 1)) := Lib.hid fun V h => X.below h
  have HW : Hid (∀ V, Below W.heap.size W V → Below w.heap.size w V) := Lib.hid fun V h => hB0.trans (h.mono hB0.size)
  have hC := Below.refl W.heap.size W
  clear K0 K1 K2 K3 X hB0
  have HIS := fun V (h : Below w.heap.size w V) => rdis_any A cap l cs FA fcp p V (by omega) (fun g hg => Nat.le_trans (hcl g hg) (by omega)) (by omega) (hBW.out V h)
  rw [h1, h2, Bool.and_self] at HIS
  have HIS := Lib.hid HIS
  have hok := (dchk_iff i q pr).1 h3
  have hg2 := hok.2.1
  unfold prB at hg2
  simp only [Bool.and_eq_true, decide_eq_true_eq] at hg2
  have hRI := fun V (h : Below w.heap.size w V) => ris_any i IA IC V (hIW.out V h)
  rw [hok.1] at hRI
  unfold insV at hRI
  have HRI := Lib.hid hRI
  clear hRI
  have c1 : decide (pr < 0) = false := decide_eq_false (by omega)
  have c2 : decide (2147483647 < pr) = false := decide_eq_false (by omega)
  have c3 : (q == 0) = false := by simpa using hok.2.2.1
  have c4 : decide (q < -1099511627776) = false := decide_eq_false (by omega)
  have c5 : decide (1099511627776 < q) = false := decide_eq_false (by omega)
  clear hok hg2
  have h128 := gain_128 h3 hq
  have hGN := fun V (h : Below w.heap.size w V) => rgain_any i IA IC q pr i.price V (hIW.out V h) hq hpr hi6.2.2.1
  rw [gain_turnD] at hGN
  unfold insV at hGN
  have HGN := Lib.hid hGN
  have H128 := Lib.hid h128
  clear hGN h128
  have hFT := fun s A n c V (h : n ≤ 100000) hx => bfits_any (gainZ i q pr i.price) s A n c V h hx
  rw [show decide (inN (gainZ i q pr i.price) 63) = true from decide_eq_true ((in64_iff _).2 h5)] at hFT
  have HFT := Lib.hid hFT
  clear hFT
  have hMV := fun LA V (h : Below w.heap.size w V) hM => rbmove_any A cap l cs fa fc ta tc LA 1 [⟨i.id, q⟩] V hl hcl h6 (by simp) (by intro y hy; rw [List.mem_singleton.1 hy]; exact hq) (hBW.out V h).s (hBW.out V h).t hM
  rw [h6m] at hMV
  unfold HRes at hMV
  simp only at hMV
  have HMV := Lib.hid hMV
  clear hMV
  have HR := Lib.hid (dealR_pos h1 h2 h3 h4 h5 h6m hn)
  have bn : (n != 0) = true := by simpa using hn
  have H4 := Lib.hid h4
  clear h1 h2 h3 h4 h5 h6m hn
  generalize gainZ i q pr i.price = gz at *
  obtain ⟨⟨d0, d1⟩, ⟨i0, i1, i2, i3, i4⟩, ⟨f0, f1⟩, ⟨u0, u1⟩⟩ := HC.out _ hC
  go_wp2_with fail
  refine (HIS.out _ (HW.out _ hC)).mono ?_
  rintro e z1 ⟨rfl, hb⟩
  have hC := since_step hC hb
  clear hb
  clear d0 d1 i0 i1 i2 i3 i4 f0 f1 u0 u1
  obtain ⟨⟨d0, d1⟩, ⟨i0, i1, i2, i3, i4⟩, ⟨f0, f1⟩, ⟨u0, u1⟩⟩ := HC.out _ hC
  go_wp2_with fail
  refine (HRI.out _ (HW.out _ hC)).mono ?_
  rintro e z2 ⟨rfl, hb⟩
  have hC := since_step hC hb
  clear hb
  clear d0 d1 i0 i1 i2 i3 i4 f0 f1 u0 u1
  go_upto_region 5 with fail
  go_cut [49] (fun s49 wx => s49 = .bool false ∧ Below z2.heap.size z2 wx)
  case first =>
    obtain ⟨⟨d0, d1⟩, ⟨i0, i1, i2, i3, i4⟩, ⟨f0, f1⟩, ⟨u0, u1⟩⟩ := HC.out _ hC
    by_cases e0 : fa = ta
    · have b1 : (fa == ta) = true := by simpa using e0
      have b2 : (fc == tc) = false := by simpa using fun h => H4.out ⟨e0, h⟩
      clear e0
      go_wp2_with fail
      go_meet
      case rel => exact ⟨rfl, Below.refl _ _⟩
    · have b1 : (fa == ta) = false := by simpa using e0
      clear e0
      go_wp2_with fail
      go_meet
      case rel => exact ⟨rfl, Below.refl _ _⟩
  case rest =>
    obtain ⟨rfl, hbx⟩ := hcut
    have hC := since_step hC hbx
    clear hbx
    obtain ⟨⟨d0, d1⟩, ⟨i0, i1, i2, i3, i4⟩, ⟨f0, f1⟩, ⟨u0, u1⟩⟩ := HC.out _ hC
    go_wp2_with fail
    refine (HGN.out _ (HW.out _ hC)).mono ?_
    rintro e z3 ⟨⟨s8, A8, n8, c8, rfl, _, D8⟩, hb⟩
    have hC := since_step hC hb
    clear hb
    clear d0 d1 i0 i1 i2 i3 i4 f0 f1 u0 u1
    have D8 := D8.alloc (.cells #[.bool s8, .slice A8 n8 c8] 50)
    have X8 := BB.new z3 s8 A8 n8 c8 50
    have hC := since_alloc hC (.cells #[.bool s8, .slice A8 n8 c8] 50)
    have L8 := D8.l128 H128.out
    obtain ⟨⟨d0, d1⟩, ⟨i0, i1, i2, i3, i4⟩, ⟨f0, f1⟩, ⟨u0, u1⟩⟩ := HC.out _ hC
    obtain ⟨b1_, b2_, b3_, b4_, b5_⟩ := id X8
    go_wp2_with fail
    refine (HFT.out _ _ _ _ _ (by omega) D8).mono ?_
    rintro e z4 ⟨rfl, hb⟩
    have hC := since_step hC hb
    have D8 := D8.below hb
    have X8 := X8.below hb
    clear hb b1_ b2_ b3_ b4_ b5_
    clear d0 d1 i0 i1 i2 i3 i4 f0 f1 u0 u1
    obtain ⟨⟨d0, d1⟩, ⟨i0, i1, i2, i3, i4⟩, ⟨f0, f1⟩, ⟨u0, u1⟩⟩ := HC.out _ hC
    go_wp2_with fail
    refine (HMV.out _ _ (HW.out _ (since_alloc hC _)) (Sl.new_ z4 (rc Lg.cells [⟨i.id, q⟩]) 75)).mono ?_
    rintro e z5 ⟨⟨m5, A5, k5, rfl, s5, t5, _⟩, hb⟩
    have hb := since_step (since_alloc (Below.refl _ z4) (.cells #[.int .i64 i.id, .int .i64 q] 75)) hb
    have hC := since_step hC hb
    have D8 := D8.below hb
    have X8 := X8.below hb
    clear hb
    clear d0 d1 i0 i1 i2 i3 i4 f0 f1 u0 u1
    clear s5 t5
    obtain ⟨⟨d0, d1⟩, ⟨i0, i1, i2, i3, i4⟩, ⟨f0, f1⟩, ⟨u0, u1⟩⟩ := HC.out _ hC
    obtain ⟨x0, x1, x2, x3, x4⟩ := (HX.out _ hC).got
    have hBn := HW.out _ hC
    have hcs := @cell_set
    go_wp2_with fail
    refine bodyPost_ret (v := .tuple #[.agg #[.slice none 0 0, .slice none 0 0], .int .i64 (n)]) ?_ rfl ⟨?_, ?_⟩
    · simp [results, Tryz.results9, go_sem, x0, x1, x2, hcs]
    · rw [HR.out]; exact DRes.nil _ _
    · repeat' (first | with_reducible exact hBn | with_reducible refine Below.setCell ?_ ?_ _ | with_reducible refine Below.alloc ?_ ?_ _)
      all_goals first | (simp; done) | (simp; omega)
set_option maxHeartbeats 16000000 in
set_option maxRecDepth 100000 in
theorem rdat_N0 (A : Option Addr) (cap : Nat) (l : List Po) (cs : List Pc) (FA : Option Addr) (fcp : Nat) (p : List Fw) (i : Ins) (IA : Option Addr) (IC : Nat) (fa fc ta tc q pr : Int) (w : World) (hl : l.length ≤ 800000) (hcl : ∀ g ∈ cs, g.L.length ≤ 400000) (h6 : ∀ g ∈ cs, ∀ y ∈ g.L, In64 y.qty) (hpn : p.length ≤ 40000) (hpi : ∀ x ∈ p, Fw.in_ x) (hu : In64 fa ∧ In64 fc ∧ In64 ta ∧ In64 tc) (hq : In64 q) (hpr : In64 pr) (hd : Dk w A l cs FA p) (hi : InsAt w i IA IC) (B : List Pc) (h1 : isH cs = true) (h2 : isF p = true) (h3 : dchk i q pr = true) (h4 : ¬ (fa = ta ∧ fc = tc))  (h5 : In64 (gainZ i q pr i.price)) (h6m : moveP cs fa fc ta tc [⟨i.id, q⟩] = (0, B)) (h8 : ¬ In64 (-gainZ i q pr i.price)) :
    Calls Tryz.prog 9 #[.agg #[.slice A l.length cap, .slice FA p.length fcp], insV i IA IC, .agg #[.int .i64 fa, .int .i64 fc], .agg #[.int .i64 ta, .int .i64 tc], .int .i64 q, .int .i64 pr] w fun e w' => DRes w' e (dealR cs p i fa fc ta tc q pr).1 (dealR cs p i fa fc ta tc q pr).2.1 (dealR cs p i fa fc ta tc q pr).2.2 ∧ Below w.heap.size w w' := by
  have hB0 := since_alloc (since_alloc (since_alloc (since_alloc (since_alloc (Below.refl _ w) (.cells #[.slice A l.length cap, .slice FA p.length fcp] 36)) (.cells #[.int .i64 i.id, .int .i64 i.mult, .int .i64 i.price, .int .i64 i.nxt, .slice IA i.mv.length IC] 26)) (.cells #[.int .i64 fa, .int .i64 fc] 28)) (.cells #[.int .i64 ta, .int .i64 tc] 28)) (.cells #[.slice none 0 0, .slice none 0 0] 36)
  have K0 := (((((Bk.new w #[.slice A l.length cap, .slice FA p.length fcp] 36).alloc (.cells #[.int .i64 i.id, .int .i64 i.mult, .int .i64 i.price, .int .i64 i.nxt, .slice IA i.mv.length IC] 26)).alloc (.cells #[.int .i64 fa, .int .i64 fc] 28)).alloc (.cells #[.int .i64 ta, .int .i64 tc] 28)).alloc (.cells #[.slice none 0 0, .slice none 0 0] 36))
  have K1 := ((((Bk.new (w.alloc (.cells #[.slice A l.length cap, .slice FA p.length fcp] 36)) #[.int .i64 i.id, .int .i64 i.mult, .int .i64 i.price, .int .i64 i.nxt, .slice IA i.mv.length IC] 26).alloc (.cells #[.int .i64 fa, .int .i64 fc] 28)).alloc (.cells #[.int .i64 ta, .int .i64 tc] 28)).alloc (.cells #[.slice none 0 0, .slice none 0 0] 36))
  rw [World.size_alloc] at K1
  have K2 := (((Bk.new ((w.alloc (.cells #[.slice A l.length cap, .slice FA p.length fcp] 36)).alloc (.cells #[.int .i64 i.id, .int .i64 i.mult, .int .i64 i.price, .int .i64 i.nxt, .slice IA i.mv.length IC] 26)) #[.int .i64 fa, .int .i64 fc] 28).alloc (.cells #[.int .i64 ta, .int .i64 tc] 28)).alloc (.cells #[.slice none 0 0, .slice none 0 0] 36))
  rw [World.size_alloc, World.size_alloc] at K2
  have K3 := ((Bk.new (((w.alloc (.cells #[.slice A l.length cap, .slice FA p.length fcp] 36)).alloc (.cells #[.int .i64 i.id, .int .i64 i.mult, .int .i64 i.price, .int .i64 i.nxt, .slice IA i.mv.length IC] 26)).alloc (.cells #[.int .i64 fa, .int .i64 fc] 28)) #[.int .i64 ta, .int .i64 tc] 28).alloc (.cells #[.slice none 0 0, .slice none 0 0] 36))
  rw [World.size_alloc, World.size_alloc, World.size_alloc] at K3
  have X := DB.new ((((w.alloc (.cells #[.slice A l.length cap, .slice FA p.length fcp] 36)).alloc (.cells #[.int .i64 i.id, .int .i64 i.mult, .int .i64 i.price, .int .i64 i.nxt, .slice IA i.mv.length IC] 26)).alloc (.cells #[.int .i64 fa, .int .i64 fc] 28)).alloc (.cells #[.int .i64 ta, .int .i64 tc] 28)) 36
  rw [World.size_alloc, World.size_alloc, World.size_alloc, World.size_alloc] at X
  have hBW : Hid (∀ V, Below w.heap.size w V → Dk V A l cs FA p) := Lib.hid fun V h => hd.below h
  have hIW : Hid (∀ V, Below w.heap.size w V → InsAt V i IA IC) := Lib.hid fun V h => hi.below h
  unfold insV
  have hi6 := hi.n64
  clear hd hi
  go_enter Tryz.func9, Tryz.ntmps9
  go_upto_region 1 with fail
  generalize hWW : (((((w.alloc (.cells #[.slice A l.length cap, .slice FA p.length fcp] 36)).alloc (.cells #[.int .i64 i.id, .int .i64 i.mult, .int .i64 i.price, .int .i64 i.nxt, .slice IA i.mv.length IC] 26)).alloc (.cells #[.int .i64 fa, .int .i64 fc] 28)).alloc (.cells #[.int .i64 ta, .int .i64 tc] 28)).alloc (.cells #[.slice none 0 0, .slice none 0 0] 36)) = W at *
  clear hWW
  have HC : Hid (∀ V, Below W.heap.size W V → (V.cell? ⟨w.heap.size, 0, none⟩ = some (.slice A l.length cap) ∧ V.cell? ⟨w.heap.size, 1, none⟩ = some (.slice FA p.length fcp)) ∧ (V.cell? ⟨w.heap.size + 1, 0, none⟩ = some (.int .i64 i.id) ∧ V.cell? ⟨w.heap.size + 1, 1, none⟩ = some (.int .i64 i.mult) ∧ V.cell? ⟨w.heap.size + 1, 2, none⟩ = some (.int .i64 i.price) ∧ V.cell? ⟨w.heap.size + 1, 3, none⟩ = some (.int .i64 i.nxt) ∧ V.cell? ⟨w.heap.size + 1, 4, none⟩ = some (.slice IA i.mv.length IC)) ∧ (V.cell? ⟨w.heap.size + 1 + 1, 0, none⟩ = some (.int .i64 fa) ∧ V.cell? ⟨w.heap.size + 1 + 1, 1, none⟩ = some (.int .i64 fc)) ∧ (V.cell? ⟨w.heap.size + 1 + 1 + 1, 0, none⟩ = some (.int .i64 ta) ∧ V.cell? ⟨w.heap.size + 1 + 1 + 1, 1, none⟩ = some (.int .i64 tc))) := Lib.hid fun V h => ⟨⟨(K0.below h).2 0, (K0.below h).2 1⟩, ⟨(K1.below h).2 0, (K1.below h).2 1, (K1.below h).2 2, (K1.below h).2 3, (K1.below h).2 4⟩, ⟨(K2.below h).2 0, (K2.below h).2 1⟩, ⟨(K3.below h).2 0, (K3.below h).2 1⟩⟩
  have HX : Hid (∀ V, Below W.heap.size W V → DB V (w.heap.size + 1 + 1 + 1 + 1)) := Lib.hid fun V h => X.below h
  have HW : Hid (∀ V, Below W.heap.size W V → Below w.heap.size w V) := Lib.hid fun V h => hB0.trans (h.mono hB0.size)
  have hC := Below.refl W.heap.size W
  clear K0 K1 K2 K3 X hB0
  have HIS := fun V (h : Below w.heap.size w V) => rdis_any A cap l cs FA fcp p V (by omega) (fun g hg => Nat.le_trans (hcl g hg) (by omega)) (by omega) (hBW.out V h)
  rw [h1, h2, Bool.and_self] at HIS
  have HIS := Lib.hid HIS
  have hok := (dchk_iff i q pr).1 h3
  have hg2 := hok.2.1
  unfold prB at hg2
  simp only [Bool.and_eq_true, decide_eq_true_eq] at hg2
  have hRI := fun V (h : Below w.heap.size w V) => ris_any i IA IC V (hIW.out V h)
  rw [hok.1] at hRI
  unfold insV at hRI
  have HRI := Lib.hid hRI
  clear hRI
  have c1 : decide (pr < 0) = false := decide_eq_false (by omega)
  have c2 : decide (2147483647 < pr) = false := decide_eq_false (by omega)
  have c3 : (q == 0) = false := by simpa using hok.2.2.1
  have c4 : decide (q < -1099511627776) = false := decide_eq_false (by omega)
  have c5 : decide (1099511627776 < q) = false := decide_eq_false (by omega)
  clear hok hg2
  have h128 := gain_128 h3 hq
  have hGN := fun V (h : Below w.heap.size w V) => rgain_any i IA IC q pr i.price V (hIW.out V h) hq hpr hi6.2.2.1
  rw [gain_turnD] at hGN
  unfold insV at hGN
  have HGN := Lib.hid hGN
  have H128 := Lib.hid h128
  clear hGN h128
  have hFT := fun s A n c V (h : n ≤ 100000) hx => bfits_any (gainZ i q pr i.price) s A n c V h hx
  rw [show decide (inN (gainZ i q pr i.price) 63) = true from decide_eq_true ((in64_iff _).2 h5)] at hFT
  have HFT := Lib.hid hFT
  clear hFT
  have hMV := fun LA V (h : Below w.heap.size w V) hM => rbmove_any A cap l cs fa fc ta tc LA 1 [⟨i.id, q⟩] V hl hcl h6 (by simp) (by intro y hy; rw [List.mem_singleton.1 hy]; exact hq) (hBW.out V h).s (hBW.out V h).t hM
  rw [h6m] at hMV
  unfold HRes at hMV
  simp only at hMV
  have HMV := Lib.hid hMV
  clear hMV
  have HNG := Lib.hid (fun s A n c V (h : n ≤ 1000000) (hx : BigAt V s A n c (gainZ i q pr i.price)) => bneg' h hx)
  have hFN := fun s A n c V (h : n ≤ 100000) hx => bfits_any (-gainZ i q pr i.price) s A n c V h hx
  rw [show decide (inN (-gainZ i q pr i.price) 63) = false from decide_eq_false fun h => h8 ((in64_iff _).1 h)] at hFN
  have HFN := Lib.hid hFN
  clear hFN
  have HR := Lib.hid (dealR_cash h1 h2 h3 h4 h5 h6m (moveR_no h2 h8) (by decide))
  have H4 := Lib.hid h4
  clear h1 h2 h3 h4 h5 h6m h8
  generalize gainZ i q pr i.price = gz at *
  obtain ⟨⟨d0, d1⟩, ⟨i0, i1, i2, i3, i4⟩, ⟨f0, f1⟩, ⟨u0, u1⟩⟩ := HC.out _ hC
  go_wp2_with fail
  refine (HIS.out _ (HW.out _ hC)).mono ?_
  rintro e z1 ⟨rfl, hb⟩
  have hC := since_step hC hb
  clear hb
  clear d0 d1 i0 i1 i2 i3 i4 f0 f1 u0 u1
  obtain ⟨⟨d0, d1⟩, ⟨i0, i1, i2, i3, i4⟩, ⟨f0, f1⟩, ⟨u0, u1⟩⟩ := HC.out _ hC
  go_wp2_with fail
  refine (HRI.out _ (HW.out _ hC)).mono ?_
  rintro e z2 ⟨rfl, hb⟩
  have hC := since_step hC hb
  clear hb
  clear d0 d1 i0 i1 i2 i3 i4 f0 f1 u0 u1
  go_upto_region 5 with fail
  go_cut [49] (fun s49 wx => s49 = .bool false ∧ Below z2.heap.size z2 wx)
  case first =>
    obtain ⟨⟨d0, d1⟩, ⟨i0, i1, i2, i3, i4⟩, ⟨f0, f1⟩, ⟨u0, u1⟩⟩ := HC.out _ hC
    by_cases e0 : fa = ta
    · have b1 : (fa == ta) = true := by simpa using e0
      have b2 : (fc == tc) = false := by simpa using fun h => H4.out ⟨e0, h⟩
      clear e0
      go_wp2_with fail
      go_meet
      case rel => exact ⟨rfl, Below.refl _ _⟩
    · have b1 : (fa == ta) = false := by simpa using e0
      clear e0
      go_wp2_with fail
      go_meet
      case rel => exact ⟨rfl, Below.refl _ _⟩
  case rest =>
    obtain ⟨rfl, hbx⟩ := hcut
    have hC := since_step hC hbx
    clear hbx
    obtain ⟨⟨d0, d1⟩, ⟨i0, i1, i2, i3, i4⟩, ⟨f0, f1⟩, ⟨u0, u1⟩⟩ := HC.out _ hC
    go_wp2_with fail
    refine (HGN.out _ (HW.out _ hC)).mono ?_
    rintro e z3 ⟨⟨s8, A8, n8, c8, rfl, _, D8⟩, hb⟩
    have hC := since_step hC hb
    clear hb
    clear d0 d1 i0 i1 i2 i3 i4 f0 f1 u0 u1
    have D8 := D8.alloc (.cells #[.bool s8, .slice A8 n8 c8] 50)
    have X8 := BB.new z3 s8 A8 n8 c8 50
    have hC := since_alloc hC (.cells #[.bool s8, .slice A8 n8 c8] 50)
    have L8 := D8.l128 H128.out
    obtain ⟨⟨d0, d1⟩, ⟨i0, i1, i2, i3, i4⟩, ⟨f0, f1⟩, ⟨u0, u1⟩⟩ := HC.out _ hC
    obtain ⟨b1_, b2_, b3_, b4_, b5_⟩ := id X8
    go_wp2_with fail
    refine (HFT.out _ _ _ _ _ (by omega) D8).mono ?_
    rintro e z4 ⟨rfl, hb⟩
    have hC := since_step hC hb
    have D8 := D8.below hb
    have X8 := X8.below hb
    clear hb b1_ b2_ b3_ b4_ b5_
    clear d0 d1 i0 i1 i2 i3 i4 f0 f1 u0 u1
    obtain ⟨⟨d0, d1⟩, ⟨i0, i1, i2, i3, i4⟩, ⟨f0, f1⟩, ⟨u0, u1⟩⟩ := HC.out _ hC
    go_wp2_with fail
    refine (HMV.out _ _ (HW.out _ (since_alloc hC _)) (Sl.new_ z4 (rc Lg.cells [⟨i.id, q⟩]) 75)).mono ?_
    rintro e z5 ⟨⟨m5, A5, k5, rfl, s5, t5, _⟩, hb⟩
    have hb := since_step (since_alloc (Below.refl _ z4) (.cells #[.int .i64 i.id, .int .i64 q] 75)) hb
    have hC := since_step hC hb
    have D8 := D8.below hb
    have X8 := X8.below hb
    clear hb
    clear d0 d1 i0 i1 i2 i3 i4 f0 f1 u0 u1
    obtain ⟨⟨d0, d1⟩, ⟨i0, i1, i2, i3, i4⟩, ⟨f0, f1⟩, ⟨u0, u1⟩⟩ := HC.out _ hC
    obtain ⟨b1_, b2_, b3_, b4_, b5_⟩ := id X8
    go_wp2_with fail
    refine (HNG.out _ _ _ _ _ (by omega) D8).mono ?_
    rintro e z6 ⟨⟨s9, n9, c9, rfl, hle9, D9⟩, hb⟩
    have hC := since_step hC hb
    have D8 := D8.below hb
    have X8 := X8.below hb
    have s5 := s5.below hb
    have t5 := t5.below hb
    clear hb b1_ b2_ b3_ b4_ b5_
    clear d0 d1 i0 i1 i2 i3 i4 f0 f1 u0 u1
    obtain ⟨⟨d0, d1⟩, ⟨i0, i1, i2, i3, i4⟩, ⟨f0, f1⟩, ⟨u0, u1⟩⟩ := HC.out _ hC
    go_wp2_with fail
    refine (HFN.out _ _ _ _ _ (by omega) D9).mono ?_
    rintro e z7 ⟨rfl, hb⟩
    have hC := since_step hC hb
    have D8 := D8.below hb
    have X8 := X8.below hb
    have s5 := s5.below hb
    have t5 := t5.below hb
    clear hb D9 hle9
    clear d0 d1 i0 i1 i2 i3 i4 f0 f1 u0 u1
    clear s5 t5
    obtain ⟨⟨d0, d1⟩, ⟨i0, i1, i2, i3, i4⟩, ⟨f0, f1⟩, ⟨u0, u1⟩⟩ := HC.out _ hC
    obtain ⟨x0, x1, x2, x3, x4⟩ := (HX.out _ hC).got
    have hBn := HW.out _ hC
    have hcs := @cell_set
    go_wp2_with fail
    refine bodyPost_ret (v := .tuple #[.agg #[.slice none 0 0, .slice none 0 0], .int .i64 (7)]) ?_ rfl ⟨?_, ?_⟩
    · simp [results, Tryz.results9, go_sem, x0, x1, x2, hcs]
    · rw [HR.out]; exact DRes.nil _ _
    · repeat' (first | with_reducible exact hBn | with_reducible refine Below.setCell ?_ ?_ _ | with_reducible refine Below.alloc ?_ ?_ _)
      all_goals first | (simp; done) | (simp; omega)
set_option maxHeartbeats 16000000 in
set_option maxRecDepth 100000 in
theorem rdat_F0 (A : Option Addr) (cap : Nat) (l : List Po) (cs : List Pc) (FA : Option Addr) (fcp : Nat) (p : List Fw) (i : Ins) (IA : Option Addr) (IC : Nat) (fa fc ta tc q pr : Int) (w : World) (hl : l.length ≤ 800000) (hcl : ∀ g ∈ cs, g.L.length ≤ 400000) (h6 : ∀ g ∈ cs, ∀ y ∈ g.L, In64 y.qty) (hpn : p.length ≤ 40000) (hpi : ∀ x ∈ p, Fw.in_ x) (hu : In64 fa ∧ In64 fc ∧ In64 ta ∧ In64 tc) (hq : In64 q) (hpr : In64 pr) (hd : Dk w A l cs FA p) (hi : InsAt w i IA IC) (n : Int) (B : List Pc) (P : List Fw) (h1 : isH cs = true) (h2 : isF p = true) (h3 : dchk i q pr = true) (h4 : ¬ (fa = ta ∧ fc = tc))  (h5 : In64 (gainZ i q pr i.price)) (h6m : moveP cs fa fc ta tc [⟨i.id, q⟩] = (0, B)) (h8 : In64 (-gainZ i q pr i.price)) (h7 : moveR p fa fc ta tc (gainZ i q pr i.price) = (n, P)) (hn : n ≠ 0) :
    Calls Tryz.prog 9 #[.agg #[.slice A l.length cap, .slice FA p.length fcp], insV i IA IC, .agg #[.int .i64 fa, .int .i64 fc], .agg #[.int .i64 ta, .int .i64 tc], .int .i64 q, .int .i64 pr] w fun e w' => DRes w' e (dealR cs p i fa fc ta tc q pr).1 (dealR cs p i fa fc ta tc q pr).2.1 (dealR cs p i fa fc ta tc q pr).2.2 ∧ Below w.heap.size w w' := by
  have hB0 := since_alloc (since_alloc (since_alloc (since_alloc (since_alloc (Below.refl _ w) (.cells #[.slice A l.length cap, .slice FA p.length fcp] 36)) (.cells #[.int .i64 i.id, .int .i64 i.mult, .int .i64 i.price, .int .i64 i.nxt, .slice IA i.mv.length IC] 26)) (.cells #[.int .i64 fa, .int .i64 fc] 28)) (.cells #[.int .i64 ta, .int .i64 tc] 28)) (.cells #[.slice none 0 0, .slice none 0 0] 36)
  have K0 := (((((Bk.new w #[.slice A l.length cap, .slice FA p.length fcp] 36).alloc (.cells #[.int .i64 i.id, .int .i64 i.mult, .int .i64 i.price, .int .i64 i.nxt, .slice IA i.mv.length IC] 26)).alloc (.cells #[.int .i64 fa, .int .i64 fc] 28)).alloc (.cells #[.int .i64 ta, .int .i64 tc] 28)).alloc (.cells #[.slice none 0 0, .slice none 0 0] 36))
  have K1 := ((((Bk.new (w.alloc (.cells #[.slice A l.length cap, .slice FA p.length fcp] 36)) #[.int .i64 i.id, .int .i64 i.mult, .int .i64 i.price, .int .i64 i.nxt, .slice IA i.mv.length IC] 26).alloc (.cells #[.int .i64 fa, .int .i64 fc] 28)).alloc (.cells #[.int .i64 ta, .int .i64 tc] 28)).alloc (.cells #[.slice none 0 0, .slice none 0 0] 36))
  rw [World.size_alloc] at K1
  have K2 := (((Bk.new ((w.alloc (.cells #[.slice A l.length cap, .slice FA p.length fcp] 36)).alloc (.cells #[.int .i64 i.id, .int .i64 i.mult, .int .i64 i.price, .int .i64 i.nxt, .slice IA i.mv.length IC] 26)) #[.int .i64 fa, .int .i64 fc] 28).alloc (.cells #[.int .i64 ta, .int .i64 tc] 28)).alloc (.cells #[.slice none 0 0, .slice none 0 0] 36))
  rw [World.size_alloc, World.size_alloc] at K2
  have K3 := ((Bk.new (((w.alloc (.cells #[.slice A l.length cap, .slice FA p.length fcp] 36)).alloc (.cells #[.int .i64 i.id, .int .i64 i.mult, .int .i64 i.price, .int .i64 i.nxt, .slice IA i.mv.length IC] 26)).alloc (.cells #[.int .i64 fa, .int .i64 fc] 28)) #[.int .i64 ta, .int .i64 tc] 28).alloc (.cells #[.slice none 0 0, .slice none 0 0] 36))
  rw [World.size_alloc, World.size_alloc, World.size_alloc] at K3
  have X := DB.new ((((w.alloc (.cells #[.slice A l.length cap, .slice FA p.length fcp] 36)).alloc (.cells #[.int .i64 i.id, .int .i64 i.mult, .int .i64 i.price, .int .i64 i.nxt, .slice IA i.mv.length IC] 26)).alloc (.cells #[.int .i64 fa, .int .i64 fc] 28)).alloc (.cells #[.int .i64 ta, .int .i64 tc] 28)) 36
  rw [World.size_alloc, World.size_alloc, World.size_alloc, World.size_alloc] at X
  have hBW : Hid (∀ V, Below w.heap.size w V → Dk V A l cs FA p) := Lib.hid fun V h => hd.below h
  have hIW : Hid (∀ V, Below w.heap.size w V → InsAt V i IA IC) := Lib.hid fun V h => hi.below h
  unfold insV
  have hi6 := hi.n64
  clear hd hi
  go_enter Tryz.func9, Tryz.ntmps9
  go_upto_region 1 with fail
  generalize hWW : (((((w.alloc (.cells #[.slice A l.length cap, .slice FA p.length fcp] 36)).alloc (.cells #[.int .i64 i.id, .int .i64 i.mult, .int .i64 i.price, .int .i64 i.nxt, .slice IA i.mv.length IC] 26)).alloc (.cells #[.int .i64 fa, .int .i64 fc] 28)).alloc (.cells #[.int .i64 ta, .int .i64 tc] 28)).alloc (.cells #[.slice none 0 0, .slice none 0 0] 36)) = W at *
  clear hWW
  have HC : Hid (∀ V, Below W.heap.size W V → (V.cell? ⟨w.heap.size, 0, none⟩ = some (.slice A l.length cap) ∧ V.cell? ⟨w.heap.size, 1, none⟩ = some (.slice FA p.length fcp)) ∧ (V.cell? ⟨w.heap.size + 1, 0, none⟩ = some (.int .i64 i.id) ∧ V.cell? ⟨w.heap.size + 1, 1, none⟩ = some (.int .i64 i.mult) ∧ V.cell? ⟨w.heap.size + 1, 2, none⟩ = some (.int .i64 i.price) ∧ V.cell? ⟨w.heap.size + 1, 3, none⟩ = some (.int .i64 i.nxt) ∧ V.cell? ⟨w.heap.size + 1, 4, none⟩ = some (.slice IA i.mv.length IC)) ∧ (V.cell? ⟨w.heap.size + 1 + 1, 0, none⟩ = some (.int .i64 fa) ∧ V.cell? ⟨w.heap.size + 1 + 1, 1, none⟩ = some (.int .i64 fc)) ∧ (V.cell? ⟨w.heap.size + 1 + 1 + 1, 0, none⟩ = some (.int .i64 ta) ∧ V.cell? ⟨w.heap.size + 1 + 1 + 1, 1, none⟩ = some (.int .i64 tc))) := Lib.hid fun V h => ⟨⟨(K0.below h).2 0, (K0.below h).2 1⟩, ⟨(K1.below h).2 0, (K1.below h).2 1, (K1.below h).2 2, (K1.below h).2 3, (K1.below h).2 4⟩, ⟨(K2.below h).2 0, (K2.below h).2 1⟩, ⟨(K3.below h).2 0, (K3.below h).2 1⟩⟩
  have HX : Hid (∀ V, Below W.heap.size W V → DB V (w.heap.size + 1 + 1 + 1 + 1)) := Lib.hid fun V h => X.below h
  have HW : Hid (∀ V, Below W.heap.size W V → Below w.heap.size w V) := Lib.hid fun V h => hB0.trans (h.mono hB0.size)
  have hC := Below.refl W.heap.size W
  clear K0 K1 K2 K3 X hB0
  have HIS := fun V (h : Below w.heap.size w V) => rdis_any A cap l cs FA fcp p V (by omega) (fun g hg => Nat.le_trans (hcl g hg) (by omega)) (by omega) (hBW.out V h)
  rw [h1, h2, Bool.and_self] at HIS
  have HIS := Lib.hid HIS
  have hok := (dchk_iff i q pr).1 h3
  have hg2 := hok.2.1
  unfold prB at hg2
  simp only [Bool.and_eq_true, decide_eq_true_eq] at hg2
  have hRI := fun V (h : Below w.heap.size w V) => ris_any i IA IC V (hIW.out V h)
  rw [hok.1] at hRI
  unfold insV at hRI
  have HRI := Lib.hid hRI
  clear hRI
  have c1 : decide (pr < 0) = false := decide_eq_false (by omega)
  have c2 : decide (2147483647 < pr) = false := decide_eq_false (by omega)
  have c3 : (q == 0) = false := by simpa using hok.2.2.1
  have c4 : decide (q < -1099511627776) = false := decide_eq_false (by omega)
  have c5 : decide (1099511627776 < q) = false := decide_eq_false (by omega)
  clear hok hg2
  have h128 := gain_128 h3 hq
  have hGN := fun V (h : Below w.heap.size w V) => rgain_any i IA IC q pr i.price V (hIW.out V h) hq hpr hi6.2.2.1
  rw [gain_turnD] at hGN
  unfold insV at hGN
  have HGN := Lib.hid hGN
  have H128 := Lib.hid h128
  clear hGN h128
  have hFT := fun s A n c V (h : n ≤ 100000) hx => bfits_any (gainZ i q pr i.price) s A n c V h hx
  rw [show decide (inN (gainZ i q pr i.price) 63) = true from decide_eq_true ((in64_iff _).2 h5)] at hFT
  have HFT := Lib.hid hFT
  clear hFT
  have hMV := fun LA V (h : Below w.heap.size w V) hM => rbmove_any A cap l cs fa fc ta tc LA 1 [⟨i.id, q⟩] V hl hcl h6 (by simp) (by intro y hy; rw [List.mem_singleton.1 hy]; exact hq) (hBW.out V h).s (hBW.out V h).t hM
  rw [h6m] at hMV
  unfold HRes at hMV
  simp only at hMV
  have HMV := Lib.hid hMV
  clear hMV
  have HNG := Lib.hid (fun s A n c V (h : n ≤ 1000000) (hx : BigAt V s A n c (gainZ i q pr i.price)) => bneg' h hx)
  have hFN := fun s A n c V (h : n ≤ 100000) hx => bfits_any (-gainZ i q pr i.price) s A n c V h hx
  rw [show decide (inN (-gainZ i q pr i.price) 63) = true from decide_eq_true ((in64_iff _).2 h8)] at hFN
  have HFN := Lib.hid hFN
  clear hFN
  have HR := Lib.hid (dealR_cash h1 h2 h3 h4 h5 h6m h7 hn)
  have bn : (n != 0) = true := by simpa using hn
  have HPY := fun c2 A2 V (h : Below w.heap.size w V) h2 => rppay_any FA A2 fcp c2 p [⟨fa, fc, -gainZ i q pr i.price⟩, ⟨ta, tc, gainZ i q pr i.price⟩] V (by omega) (by simp) (fun x hx => by
    rcases List.mem_append.1 hx with hx | hx
    · exact hpi x hx
    · rcases List.mem_cons.1 hx with rfl | hx
      · exact ⟨hu.1, hu.2.1, h8⟩
      · rw [List.mem_singleton.1 hx]; exact ⟨hu.2.2.1, hu.2.2.2, h5⟩) (hBW.out V h).f h2
  rw [moveR_yes h2 h8] at h7
  rw [h7] at HPY
  have HPY := Lib.hid (HPY 2)
  have HIN1 := Lib.hid (fun s A n c V (h : BigAt V s A n c (-gainZ i q pr i.price)) => rint_any _ h8 s A n c V h)
  have HIN2 := Lib.hid (fun s A n c V (h : BigAt V s A n c (gainZ i q pr i.price)) => rint_any _ h5 s A n c V h)
  have H4 := Lib.hid h4
  clear h1 h2 h3 h4 h5 h6m h7 h8 hn
  generalize gainZ i q pr i.price = gz at *
  obtain ⟨⟨d0, d1⟩, ⟨i0, i1, i2, i3, i4⟩, ⟨f0, f1⟩, ⟨u0, u1⟩⟩ := HC.out _ hC
  go_wp2_with fail
  refine (HIS.out _ (HW.out _ hC)).mono ?_
  rintro e z1 ⟨rfl, hb⟩
  have hC := since_step hC hb
  clear hb
  clear d0 d1 i0 i1 i2 i3 i4 f0 f1 u0 u1
  obtain ⟨⟨d0, d1⟩, ⟨i0, i1, i2, i3, i4⟩, ⟨f0, f1⟩, ⟨u0, u1⟩⟩ := HC.out _ hC
  go_wp2_with fail
  refine (HRI.out _ (HW.out _ hC)).mono ?_
  rintro e z2 ⟨rfl, hb⟩
  have hC := since_step hC hb
  clear hb
  clear d0 d1 i0 i1 i2 i3 i4 f0 f1 u0 u1
  go_upto_region 5 with fail
  go_cut [49] (fun s49 wx => s49 = .bool false ∧ Below z2.heap.size z2 wx)
  case first =>
    obtain ⟨⟨d0, d1⟩, ⟨i0, i1, i2, i3, i4⟩, ⟨f0, f1⟩, ⟨u0, u1⟩⟩ := HC.out _ hC
    by_cases e0 : fa = ta
    · have b1 : (fa == ta) = true := by simpa using e0
      have b2 : (fc == tc) = false := by simpa using fun h => H4.out ⟨e0, h⟩
      clear e0
      go_wp2_with fail
      go_meet
      case rel => exact ⟨rfl, Below.refl _ _⟩
    · have b1 : (fa == ta) = false := by simpa using e0
      clear e0
      go_wp2_with fail
      go_meet
      case rel => exact ⟨rfl, Below.refl _ _⟩
  case rest =>
    obtain ⟨rfl, hbx⟩ := hcut
    have hC := since_step hC hbx
    clear hbx
    obtain ⟨⟨d0, d1⟩, ⟨i0, i1, i2, i3, i4⟩, ⟨f0, f1⟩, ⟨u0, u1⟩⟩ := HC.out _ hC
    go_wp2_with fail
    refine (HGN.out _ (HW.out _ hC)).mono ?_
    rintro e z3 ⟨⟨s8, A8, n8, c8, rfl, _, D8⟩, hb⟩
    have hC := since_step hC hb
    clear hb
    clear d0 d1 i0 i1 i2 i3 i4 f0 f1 u0 u1
    have D8 := D8.alloc (.cells #[.bool s8, .slice A8 n8 c8] 50)
    have X8 := BB.new z3 s8 A8 n8 c8 50
    have hC := since_alloc hC (.cells #[.bool s8, .slice A8 n8 c8] 50)
    have L8 := D8.l128 H128.out
    obtain ⟨⟨d0, d1⟩, ⟨i0, i1, i2, i3, i4⟩, ⟨f0, f1⟩, ⟨u0, u1⟩⟩ := HC.out _ hC
    obtain ⟨b1_, b2_, b3_, b4_, b5_⟩ := id X8
    go_wp2_with fail
    refine (HFT.out _ _ _ _ _ (by omega) D8).mono ?_
    rintro e z4 ⟨rfl, hb⟩
    have hC := since_step hC hb
    have D8 := D8.below hb
    have X8 := X8.below hb
    clear hb b1_ b2_ b3_ b4_ b5_
    clear d0 d1 i0 i1 i2 i3 i4 f0 f1 u0 u1
    obtain ⟨⟨d0, d1⟩, ⟨i0, i1, i2, i3, i4⟩, ⟨f0, f1⟩, ⟨u0, u1⟩⟩ := HC.out _ hC
    go_wp2_with fail
    refine (HMV.out _ _ (HW.out _ (since_alloc hC _)) (Sl.new_ z4 (rc Lg.cells [⟨i.id, q⟩]) 75)).mono ?_
    rintro e z5 ⟨⟨m5, A5, k5, rfl, s5, t5, _⟩, hb⟩
    have hb := since_step (since_alloc (Below.refl _ z4) (.cells #[.int .i64 i.id, .int .i64 q] 75)) hb
    have hC := since_step hC hb
    have D8 := D8.below hb
    have X8 := X8.below hb
    clear hb
    clear d0 d1 i0 i1 i2 i3 i4 f0 f1 u0 u1
    obtain ⟨⟨d0, d1⟩, ⟨i0, i1, i2, i3, i4⟩, ⟨f0, f1⟩, ⟨u0, u1⟩⟩ := HC.out _ hC
    obtain ⟨b1_, b2_, b3_, b4_, b5_⟩ := id X8
    go_wp2_with fail
    refine (HNG.out _ _ _ _ _ (by omega) D8).mono ?_
    rintro e z6 ⟨⟨s9, n9, c9, rfl, hle9, D9⟩, hb⟩
    have hC := since_step hC hb
    have D8 := D8.below hb
    have X8 := X8.below hb
    have s5 := s5.below hb
    have t5 := t5.below hb
    clear hb b1_ b2_ b3_ b4_ b5_
    clear d0 d1 i0 i1 i2 i3 i4 f0 f1 u0 u1
    obtain ⟨⟨d0, d1⟩, ⟨i0, i1, i2, i3, i4⟩, ⟨f0, f1⟩, ⟨u0, u1⟩⟩ := HC.out _ hC
    go_wp2_with fail
    refine (HFN.out _ _ _ _ _ (by omega) D9).mono ?_
    rintro e z7 ⟨rfl, hb⟩
    have hC := since_step hC hb
    have D8 := D8.below hb
    have X8 := X8.below hb
    have s5 := s5.below hb
    have t5 := t5.below hb
    clear hb D9 hle9
    clear d0 d1 i0 i1 i2 i3 i4 f0 f1 u0 u1
    go_upto_region 15 with fail
    generalize hYY : z7 = Y at *
    clear hYY
    have HD8 : Hid (∀ V, Below Y.heap.size Y V → BigAt V s8 A8 n8 c8 gz) := Lib.hid fun V h => D8.below h
    have HCY : Hid (∀ V, Below Y.heap.size Y V → Below W.heap.size W V) := Lib.hid fun V h => hC.trans (h.mono hC.size)
    have HYW : Hid (∀ V, Below Y.heap.size Y V → Below w.heap.size w V) := Lib.hid fun V h => HW.out _ (HCY.out V h)
    have HY : Hid (∀ V, Below Y.heap.size Y V → V.cell? ⟨w.heap.size, 1, none⟩ = some (.slice FA p.length fcp) ∧ (V.cell? ⟨w.heap.size + 1 + 1, 0, none⟩ = some (.int .i64 fa) ∧ V.cell? ⟨w.heap.size + 1 + 1, 1, none⟩ = some (.int .i64 fc)) ∧ (V.cell? ⟨w.heap.size + 1 + 1 + 1, 0, none⟩ = some (.int .i64 ta) ∧ V.cell? ⟨w.heap.size + 1 + 1 + 1, 1, none⟩ = some (.int .i64 tc)) ∧ (V.cell? ⟨z3.heap.size, 0, none⟩ = some (.bool s8) ∧ V.cell? ⟨z3.heap.size, 1, none⟩ = some (.slice A8 n8 c8))) := Lib.hid fun V h => by
      obtain ⟨⟨_, d1⟩, _, ⟨f0, f1⟩, ⟨u0, u1⟩⟩ := HC.out _ (HCY.out V h)
      obtain ⟨_, v0, v1, _, _⟩ := id (X8.below h)
      exact ⟨d1, ⟨f0, f1⟩, ⟨u0, u1⟩, ⟨v0, v1⟩⟩
    have L8 : Hid (n8 ≤ 1000000) := Lib.hid (by omega)
    have HS5 : Hid (∀ V, Below Y.heap.size Y V → Sl V A5 (rc Po.cells m5) ∧ PoTab V m5 B) := Lib.hid fun V h => ⟨s5.below h, t5.below h⟩
    clear D8 X8 s5 t5 hC HFN
    go_wp2_with fail
    refine wp_region_held_drew (S := (fun V => Below Y.heap.size Y V)) (by kernel_rfl) (by exact (Below.refl _ _).drew) (fun hHeld => ?_)
    refine tkZ (i := 0) (oi := ⟨some 84, _, _, _, _, _⟩) (v := ?_) rfl (by kernel_rfl) (fun _ _ _ h => h) (Or.inl ⟨by rfl, ?_⟩) hHeld ?_
    rotate_left
    · (intro w hSw; clear hSw; go_simp <;> with_reducible rfl)
    try simp only [pqZ]
    refine tkZ (i := 1) (oi := ⟨some 85, _, _, _, _, _⟩) (v := ?_) rfl (by kernel_rfl) (fun _ _ _ h => h) (Or.inl ⟨by rfl, ?_⟩) hHeld ?_
    rotate_left
    · (intro w hSw; obtain ⟨d1, ⟨f0, f1⟩, ⟨u0, u1⟩, ⟨v0, v1⟩⟩ := HY.out _ (hSw); go_simp <;> with_reducible rfl)
    try simp only [pqZ]
    refine tkZ (i := 2) (oi := ⟨some 86, _, _, _, _, _⟩) (v := ?_) rfl (by kernel_rfl) (fun _ _ _ h => h) (Or.inl ⟨by rfl, ?_⟩) hHeld ?_
    rotate_left
    · (intro w hSw; obtain ⟨d1, ⟨f0, f1⟩, ⟨u0, u1⟩, ⟨v0, v1⟩⟩ := HY.out _ (hSw); go_simp <;> with_reducible rfl)
    try simp only [pqZ]
    refine tkZ (i := 3) (oi := ⟨some 87, _, _, _, _, _⟩) (v := ?_) rfl (by kernel_rfl) (fun _ _ _ h => h) (Or.inl ⟨by rfl, ?_⟩) hHeld ?_
    rotate_left
    · (intro w hSw; obtain ⟨d1, ⟨f0, f1⟩, ⟨u0, u1⟩, ⟨v0, v1⟩⟩ := HY.out _ (hSw); go_simp <;> with_reducible rfl)
    try simp only [pqZ]
    refine tkZ (i := 7) (oi := ⟨some 91, _, _, _, _, _⟩) (v := ?_) rfl (by kernel_rfl) (fun _ _ _ h => h) (Or.inl ⟨by rfl, ?_⟩) hHeld ?_
    rotate_left
    · (intro w hSw; obtain ⟨d1, ⟨f0, f1⟩, ⟨u0, u1⟩, ⟨v0, v1⟩⟩ := HY.out _ (hSw); go_simp <;> with_reducible rfl)
    try simp only [pqZ]
    refine tkZ (i := 8) (oi := ⟨some 92, _, _, _, _, _⟩) (v := ?_) rfl (by kernel_rfl) (fun _ _ _ h => h) (Or.inl ⟨by rfl, ?_⟩) hHeld ?_
    rotate_left
    · (intro w hSw; obtain ⟨d1, ⟨f0, f1⟩, ⟨u0, u1⟩, ⟨v0, v1⟩⟩ := HY.out _ (hSw); go_simp <;> with_reducible rfl)
    try simp only [pqZ]
    refine wpAnyH_ready (rs := [4]) (by kernel_rfl) (by simp) ?_
    refine AllReadyH.cons (o := ⟨some 88, _, _, _, _, _⟩) rfl (fun K hK => ?_) AllReadyH.nil
    go_simp
    refine (HNG.out _ _ _ _ _ L8.out (HD8.out _ hHeld)).mono ?_
    rintro e x1 ⟨⟨s9, n9, c9, rfl, hle9, D9⟩, hk1⟩
    have hKeep := since_step hHeld hk1
    go_wp2_with fail
    refine hK.out _ _ (by (try dsimp only); exact hKeep) (fun hHeld => ?_)
    clear hK K hKeep
    try simp only [pqZ]
    refine wpAnyH_ready (rs := [5]) (by kernel_rfl) (by simp) ?_
    refine AllReadyH.cons (o := ⟨some 89, _, _, _, _, _⟩) rfl (fun K hK => ?_) AllReadyH.nil
    go_simp
    refine (HIN1.out _ _ _ _ _ D9).mono ?_
    rintro e x2 ⟨rfl, hk2⟩
    have hKeep := since_step hHeld hk2
    clear D9
    go_wp2_with fail
    refine hK.out _ _ (by (try dsimp only); exact hKeep) (fun hHeld => ?_)
    clear hK K hKeep
    try simp only [pqZ]
    refine tkZ (i := 6) (oi := ⟨some 90, _, _, _, _, _⟩) (v := ?_) rfl (by kernel_rfl) (fun _ _ _ h => h) (Or.inl ⟨by rfl, ?_⟩) hHeld ?_
    rotate_left
    · (intro w hSw; clear hSw; go_simp <;> with_reducible rfl)
    try simp only [pqZ]
    refine wpAnyH_ready (rs := [9]) (by kernel_rfl) (by simp) ?_
    refine AllReadyH.cons (o := ⟨some 93, _, _, _, _, _⟩) rfl (fun K hK => ?_) AllReadyH.nil
    go_simp
    refine (HIN2.out _ _ _ _ _ (HD8.out _ hHeld)).mono ?_
    rintro e x3 ⟨rfl, hk3⟩
    have hKeep := since_step hHeld hk3
    go_wp2_with fail
    refine hK.out _ _ (by (try dsimp only); exact hKeep) (fun hHeld => ?_)
    clear hK K hKeep
    try simp only [pqZ]
    refine tkZ (i := 10) (oi := ⟨some 94, _, _, _, _, _⟩) (v := ?_) rfl (by kernel_rfl) (fun _ _ _ h => h) (Or.inl ⟨by rfl, ?_⟩) hHeld ?_
    rotate_left
    · (intro w hSw; clear hSw; go_simp <;> with_reducible rfl)
    try simp only [pqZ]
    refine wpAnyH_ready (rs := [11]) (by kernel_rfl) (by simp) ?_
    refine AllReadyH.cons (o := ⟨some 95, _, _, _, _, _⟩) rfl (fun K hK => ?_) AllReadyH.nil
    have hHd := hHeld
    obtain ⟨d1, ⟨f0, f1⟩, ⟨u0, u1⟩, ⟨v0, v1⟩⟩ := HY.out _ (hHd)
    have hKeep := since_alloc hHeld (.cells (rc Fw.cells [⟨fa, fc, -gz⟩, ⟨ta, tc, gz⟩]).toArray 86)
    have HU := Sl.new_ x3 (rc Fw.cells [⟨fa, fc, -gz⟩, ⟨ta, tc, gz⟩]) 86
    skip
    go_simp
    refine hK.out _ _ (by (try dsimp only); exact hKeep) (fun hHeld => ?_)
    clear hK K hKeep
    try simp only [pqZ]
    refine wpAnyH_ready (rs := [12]) (by kernel_rfl) (by simp) ?_
    refine AllReadyH.cons (o := ⟨some 96, _, _, _, _, _⟩) rfl (fun K hK => ?_) AllReadyH.nil
    go_simp
    refine (HPY.out _ _ (HYW.out _ hHeld) HU).mono ?_
    rintro e x4 ⟨hr, hk4⟩
    obtain ⟨A6, k6, rfl, s6⟩ := hr.of
    have hKeep := since_step hHeld hk4
    clear HU
    go_wp2_with fail
    refine hK.out _ _ (by (try dsimp only); exact hKeep) (fun hHeld => ?_)
    clear hK K hKeep
    try simp only [pqZ]
    refine tkZ (i := 13) (oi := ⟨some 83, _, _, _, _, _⟩) (v := ?_) rfl (by kernel_rfl) (fun _ _ _ h => h) (Or.inl ⟨by rfl, ?_⟩) hHeld ?_
    rotate_left
    · (intro w hSw; clear hSw; go_simp <;> with_reducible rfl)
    try simp only [pqZ]
    refine tkZ (i := 14) (oi := ⟨some 97, _, _, _, _, _⟩) (v := ?_) rfl (by kernel_rfl) (fun _ _ _ h => h) (Or.inl ⟨by rfl, ?_⟩) hHeld ?_
    rotate_left
    · (intro w hSw; clear hSw; go_simp <;> with_reducible rfl)
    try simp only [pqZ]
    refine tkZ (i := 15) (oi := ⟨some 98, _, _, _, _, _⟩) (v := ?_) rfl (by kernel_rfl) (fun _ _ _ h => h) (Or.inl ⟨by rfl, ?_⟩) hHeld ?_
    rotate_left
    · (intro w hSw; clear hSw; go_simp <;> with_reducible rfl)
    try simp only [pqZ]
    refine tkZ (i := 16) (oi := ⟨some 17, _, _, _, _, _⟩) (v := ?_) rfl (by kernel_rfl) (fun _ _ _ h => h) (Or.inl ⟨by rfl, ?_⟩) hHeld ?_
    rotate_left
    · (intro w hSw; clear hSw; go_simp <;> with_reducible rfl)
    try simp only [pqZ]
    refine tkZ (i := 17) (oi := ⟨some 18, _, _, _, _, _⟩) (v := ?_) rfl (by kernel_rfl) (fun _ _ _ h => h) (Or.inl ⟨by rfl, ?_⟩) hHeld ?_
    rotate_left
    · (intro w hSw; clear hSw; go_simp <;> with_reducible rfl)
    try simp only [pqZ]
    refine wpAnyH_done (by kernel_rfl) ?_ _
    have hC := HCY.out _ hHeld
    have HDK : Hid (Dk x4 A5 m5 B A6 P) := Lib.hid ⟨(HS5.out _ hHeld).1, (HS5.out _ hHeld).2, s6⟩
    clear s6 hHeld HS5 HY HYW HD8 HCY HNG HIN1 HIN2 HPY
    obtain ⟨⟨d0, d1⟩, ⟨i0, i1, i2, i3, i4⟩, ⟨f0, f1⟩, ⟨u0, u1⟩⟩ := HC.out _ hC
    obtain ⟨x0, x1, x2, x3, x4⟩ := (HX.out _ hC).got
    have hBn := HW.out _ hC
    have hcs := @cell_set
    go_wp2_with fail
    refine bodyPost_ret (v := .tuple #[.agg #[.slice none 0 0, .slice none 0 0], .int .i64 (n)]) ?_ rfl ⟨?_, ?_⟩
    · simp [results, Tryz.results9, go_sem, x0, x1, x2, hcs]
    · rw [HR.out]; exact DRes.nil _ _
    · repeat' (first | with_reducible exact hBn | with_reducible refine Below.setCell ?_ ?_ _ | with_reducible refine Below.alloc ?_ ?_ _)
      all_goals first | (simp; done) | (simp; omega)
set_option maxHeartbeats 16000000 in
set_option maxRecDepth 100000 in
theorem rdat_G0 (A : Option Addr) (cap : Nat) (l : List Po) (cs : List Pc) (FA : Option Addr) (fcp : Nat) (p : List Fw) (i : Ins) (IA : Option Addr) (IC : Nat) (fa fc ta tc q pr : Int) (w : World) (hl : l.length ≤ 800000) (hcl : ∀ g ∈ cs, g.L.length ≤ 400000) (h6 : ∀ g ∈ cs, ∀ y ∈ g.L, In64 y.qty) (hpn : p.length ≤ 40000) (hpi : ∀ x ∈ p, Fw.in_ x) (hu : In64 fa ∧ In64 fc ∧ In64 ta ∧ In64 tc) (hq : In64 q) (hpr : In64 pr) (hd : Dk w A l cs FA p) (hi : InsAt w i IA IC) (B : List Pc) (P : List Fw) (h1 : isH cs = true) (h2 : isF p = true) (h3 : dchk i q pr = true) (h4 : ¬ (fa = ta ∧ fc = tc))  (h5 : In64 (gainZ i q pr i.price)) (h6m : moveP cs fa fc ta tc [⟨i.id, q⟩] = (0, B)) (h8 : In64 (-gainZ i q pr i.price)) (h7 : moveR p fa fc ta tc (gainZ i q pr i.price) = (0, P)) :
    Calls Tryz.prog 9 #[.agg #[.slice A l.length cap, .slice FA p.length fcp], insV i IA IC, .agg #[.int .i64 fa, .int .i64 fc], .agg #[.int .i64 ta, .int .i64 tc], .int .i64 q, .int .i64 pr] w fun e w' => DRes w' e (dealR cs p i fa fc ta tc q pr).1 (dealR cs p i fa fc ta tc q pr).2.1 (dealR cs p i fa fc ta tc q pr).2.2 ∧ Below w.heap.size w w' := by
  have hB0 := since_alloc (since_alloc (since_alloc (since_alloc (since_alloc (Below.refl _ w) (.cells #[.slice A l.length cap, .slice FA p.length fcp] 36)) (.cells #[.int .i64 i.id, .int .i64 i.mult, .int .i64 i.price, .int .i64 i.nxt, .slice IA i.mv.length IC] 26)) (.cells #[.int .i64 fa, .int .i64 fc] 28)) (.cells #[.int .i64 ta, .int .i64 tc] 28)) (.cells #[.slice none 0 0, .slice none 0 0] 36)
  have K0 := (((((Bk.new w #[.slice A l.length cap, .slice FA p.length fcp] 36).alloc (.cells #[.int .i64 i.id, .int .i64 i.mult, .int .i64 i.price, .int .i64 i.nxt, .slice IA i.mv.length IC] 26)).alloc (.cells #[.int .i64 fa, .int .i64 fc] 28)).alloc (.cells #[.int .i64 ta, .int .i64 tc] 28)).alloc (.cells #[.slice none 0 0, .slice none 0 0] 36))
  have K1 := ((((Bk.new (w.alloc (.cells #[.slice A l.length cap, .slice FA p.length fcp] 36)) #[.int .i64 i.id, .int .i64 i.mult, .int .i64 i.price, .int .i64 i.nxt, .slice IA i.mv.length IC] 26).alloc (.cells #[.int .i64 fa, .int .i64 fc] 28)).alloc (.cells #[.int .i64 ta, .int .i64 tc] 28)).alloc (.cells #[.slice none 0 0, .slice none 0 0] 36))
  rw [World.size_alloc] at K1
  have K2 := (((Bk.new ((w.alloc (.cells #[.slice A l.length cap, .slice FA p.length fcp] 36)).alloc (.cells #[.int .i64 i.id, .int .i64 i.mult, .int .i64 i.price, .int .i64 i.nxt, .slice IA i.mv.length IC] 26)) #[.int .i64 fa, .int .i64 fc] 28).alloc (.cells #[.int .i64 ta, .int .i64 tc] 28)).alloc (.cells #[.slice none 0 0, .slice none 0 0] 36))
  rw [World.size_alloc, World.size_alloc] at K2
  have K3 := ((Bk.new (((w.alloc (.cells #[.slice A l.length cap, .slice FA p.length fcp] 36)).alloc (.cells #[.int .i64 i.id, .int .i64 i.mult, .int .i64 i.price, .int .i64 i.nxt, .slice IA i.mv.length IC] 26)).alloc (.cells #[.int .i64 fa, .int .i64 fc] 28)) #[.int .i64 ta, .int .i64 tc] 28).alloc (.cells #[.slice none 0 0, .slice none 0 0] 36))
  rw [World.size_alloc, World.size_alloc, World.size_alloc] at K3
  have X := DB.new ((((w.alloc (.cells #[.slice A l.length cap, .slice FA p.length fcp] 36)).alloc (.cells #[.int .i64 i.id, .int .i64 i.mult, .int .i64 i.price, .int .i64 i.nxt, .slice IA i.mv.length IC] 26)).alloc (.cells #[.int .i64 fa, .int .i64 fc] 28)).alloc (.cells #[.int .i64 ta, .int .i64 tc] 28)) 36
  rw [World.size_alloc, World.size_alloc, World.size_alloc, World.size_alloc] at X
  have hBW : Hid (∀ V, Below w.heap.size w V → Dk V A l cs FA p) := Lib.hid fun V h => hd.below h
  have hIW : Hid (∀ V, Below w.heap.size w V → InsAt V i IA IC) := Lib.hid fun V h => hi.below h
  unfold insV
  have hi6 := hi.n64
  clear hd hi
  go_enter Tryz.func9, Tryz.ntmps9
  go_upto_region 1 with fail
  generalize hWW : (((((w.alloc (.cells #[.slice A l.length cap, .slice FA p.length fcp] 36)).alloc (.cells #[.int .i64 i.id, .int .i64 i.mult, .int .i64 i.price, .int .i64 i.nxt, .slice IA i.mv.length IC] 26)).alloc (.cells #[.int .i64 fa, .int .i64 fc] 28)).alloc (.cells #[.int .i64 ta, .int .i64 tc] 28)).alloc (.cells #[.slice none 0 0, .slice none 0 0] 36)) = W at *
  clear hWW
  have HC : Hid (∀ V, Below W.heap.size W V → (V.cell? ⟨w.heap.size, 0, none⟩ = some (.slice A l.length cap) ∧ V.cell? ⟨w.heap.size, 1, none⟩ = some (.slice FA p.length fcp)) ∧ (V.cell? ⟨w.heap.size + 1, 0, none⟩ = some (.int .i64 i.id) ∧ V.cell? ⟨w.heap.size + 1, 1, none⟩ = some (.int .i64 i.mult) ∧ V.cell? ⟨w.heap.size + 1, 2, none⟩ = some (.int .i64 i.price) ∧ V.cell? ⟨w.heap.size + 1, 3, none⟩ = some (.int .i64 i.nxt) ∧ V.cell? ⟨w.heap.size + 1, 4, none⟩ = some (.slice IA i.mv.length IC)) ∧ (V.cell? ⟨w.heap.size + 1 + 1, 0, none⟩ = some (.int .i64 fa) ∧ V.cell? ⟨w.heap.size + 1 + 1, 1, none⟩ = some (.int .i64 fc)) ∧ (V.cell? ⟨w.heap.size + 1 + 1 + 1, 0, none⟩ = some (.int .i64 ta) ∧ V.cell? ⟨w.heap.size + 1 + 1 + 1, 1, none⟩ = some (.int .i64 tc))) := Lib.hid fun V h => ⟨⟨(K0.below h).2 0, (K0.below h).2 1⟩, ⟨(K1.below h).2 0, (K1.below h).2 1, (K1.below h).2 2, (K1.below h).2 3, (K1.below h).2 4⟩, ⟨(K2.below h).2 0, (K2.below h).2 1⟩, ⟨(K3.below h).2 0, (K3.below h).2 1⟩⟩
  have HX : Hid (∀ V, Below W.heap.size W V → DB V (w.heap.size + 1 + 1 + 1 + 1)) := Lib.hid fun V h => X.below h
  have HW : Hid (∀ V, Below W.heap.size W V → Below w.heap.size w V) := Lib.hid fun V h => hB0.trans (h.mono hB0.size)
  have hC := Below.refl W.heap.size W
  clear K0 K1 K2 K3 X hB0
  have HIS := fun V (h : Below w.heap.size w V) => rdis_any A cap l cs FA fcp p V (by omega) (fun g hg => Nat.le_trans (hcl g hg) (by omega)) (by omega) (hBW.out V h)
  rw [h1, h2, Bool.and_self] at HIS
  have HIS := Lib.hid HIS
  have hok := (dchk_iff i q pr).1 h3
  have hg2 := hok.2.1
  unfold prB at hg2
  simp only [Bool.and_eq_true, decide_eq_true_eq] at hg2
  have hRI := fun V (h : Below w.heap.size w V) => ris_any i IA IC V (hIW.out V h)
  rw [hok.1] at hRI
  unfold insV at hRI
  have HRI := Lib.hid hRI
  clear hRI
  have c1 : decide (pr < 0) = false := decide_eq_false (by omega)
  have c2 : decide (2147483647 < pr) = false := decide_eq_false (by omega)
  have c3 : (q == 0) = false := by simpa using hok.2.2.1
  have c4 : decide (q < -1099511627776) = false := decide_eq_false (by omega)
  have c5 : decide (1099511627776 < q) = false := decide_eq_false (by omega)
  clear hok hg2
  have h128 := gain_128 h3 hq
  have hGN := fun V (h : Below w.heap.size w V) => rgain_any i IA IC q pr i.price V (hIW.out V h) hq hpr hi6.2.2.1
  rw [gain_turnD] at hGN
  unfold insV at hGN
  have HGN := Lib.hid hGN
  have H128 := Lib.hid h128
  clear hGN h128
  have hFT := fun s A n c V (h : n ≤ 100000) hx => bfits_any (gainZ i q pr i.price) s A n c V h hx
  rw [show decide (inN (gainZ i q pr i.price) 63) = true from decide_eq_true ((in64_iff _).2 h5)] at hFT
  have HFT := Lib.hid hFT
  clear hFT
  have hMV := fun LA V (h : Below w.heap.size w V) hM => rbmove_any A cap l cs fa fc ta tc LA 1 [⟨i.id, q⟩] V hl hcl h6 (by simp) (by intro y hy; rw [List.mem_singleton.1 hy]; exact hq) (hBW.out V h).s (hBW.out V h).t hM
  rw [h6m] at hMV
  unfold HRes at hMV
  simp only at hMV
  have HMV := Lib.hid hMV
  clear hMV
  have HNG := Lib.hid (fun s A n c V (h : n ≤ 1000000) (hx : BigAt V s A n c (gainZ i q pr i.price)) => bneg' h hx)
  have hFN := fun s A n c V (h : n ≤ 100000) hx => bfits_any (-gainZ i q pr i.price) s A n c V h hx
  rw [show decide (inN (-gainZ i q pr i.price) 63) = true from decide_eq_true ((in64_iff _).2 h8)] at hFN
  have HFN := Lib.hid hFN
  clear hFN
  have HR := Lib.hid (dealR_ok h1 h2 h3 h4 h5 h6m h7)
  have HPY := fun c2 A2 V (h : Below w.heap.size w V) h2 => rppay_any FA A2 fcp c2 p [⟨fa, fc, -gainZ i q pr i.price⟩, ⟨ta, tc, gainZ i q pr i.price⟩] V (by omega) (by simp) (fun x hx => by
    rcases List.mem_append.1 hx with hx | hx
    · exact hpi x hx
    · rcases List.mem_cons.1 hx with rfl | hx
      · exact ⟨hu.1, hu.2.1, h8⟩
      · rw [List.mem_singleton.1 hx]; exact ⟨hu.2.2.1, hu.2.2.2, h5⟩) (hBW.out V h).f h2
  rw [moveR_yes h2 h8] at h7
  rw [h7] at HPY
  have HPY := Lib.hid (HPY 2)
  have HIN1 := Lib.hid (fun s A n c V (h : BigAt V s A n c (-gainZ i q pr i.price)) => rint_any _ h8 s A n c V h)
  have HIN2 := Lib.hid (fun s A n c V (h : BigAt V s A n c (gainZ i q pr i.price)) => rint_any _ h5 s A n c V h)
  have H4 := Lib.hid h4
  clear h1 h2 h3 h4 h5 h6m h7 h8
  generalize gainZ i q pr i.price = gz at *
  obtain ⟨⟨d0, d1⟩, ⟨i0, i1, i2, i3, i4⟩, ⟨f0, f1⟩, ⟨u0, u1⟩⟩ := HC.out _ hC
  go_wp2_with fail
  refine (HIS.out _ (HW.out _ hC)).mono ?_
  rintro e z1 ⟨rfl, hb⟩
  have hC := since_step hC hb
  clear hb
  clear d0 d1 i0 i1 i2 i3 i4 f0 f1 u0 u1
  obtain ⟨⟨d0, d1⟩, ⟨i0, i1, i2, i3, i4⟩, ⟨f0, f1⟩, ⟨u0, u1⟩⟩ := HC.out _ hC
  go_wp2_with fail
  refine (HRI.out _ (HW.out _ hC)).mono ?_
  rintro e z2 ⟨rfl, hb⟩
  have hC := since_step hC hb
  clear hb
  clear d0 d1 i0 i1 i2 i3 i4 f0 f1 u0 u1
  go_upto_region 5 with fail
  go_cut [49] (fun s49 wx => s49 = .bool false ∧ Below z2.heap.size z2 wx)
  case first =>
    obtain ⟨⟨d0, d1⟩, ⟨i0, i1, i2, i3, i4⟩, ⟨f0, f1⟩, ⟨u0, u1⟩⟩ := HC.out _ hC
    by_cases e0 : fa = ta
    · have b1 : (fa == ta) = true := by simpa using e0
      have b2 : (fc == tc) = false := by simpa using fun h => H4.out ⟨e0, h⟩
      clear e0
      go_wp2_with fail
      go_meet
      case rel => exact ⟨rfl, Below.refl _ _⟩
    · have b1 : (fa == ta) = false := by simpa using e0
      clear e0
      go_wp2_with fail
      go_meet
      case rel => exact ⟨rfl, Below.refl _ _⟩
  case rest =>
    obtain ⟨rfl, hbx⟩ := hcut
    have hC := since_step hC hbx
    clear hbx
    obtain ⟨⟨d0, d1⟩, ⟨i0, i1, i2, i3, i4⟩, ⟨f0, f1⟩, ⟨u0, u1⟩⟩ := HC.out _ hC
    go_wp2_with fail
    refine (HGN.out _ (HW.out _ hC)).mono ?_
    rintro e z3 ⟨⟨s8, A8, n8, c8, rfl, _, D8⟩, hb⟩
    have hC := since_step hC hb
    clear hb
    clear d0 d1 i0 i1 i2 i3 i4 f0 f1 u0 u1
    have D8 := D8.alloc (.cells #[.bool s8, .slice A8 n8 c8] 50)
    have X8 := BB.new z3 s8 A8 n8 c8 50
    have hC := since_alloc hC (.cells #[.bool s8, .slice A8 n8 c8] 50)
    have L8 := D8.l128 H128.out
    obtain ⟨⟨d0, d1⟩, ⟨i0, i1, i2, i3, i4⟩, ⟨f0, f1⟩, ⟨u0, u1⟩⟩ := HC.out _ hC
    obtain ⟨b1_, b2_, b3_, b4_, b5_⟩ := id X8
    go_wp2_with fail
    refine (HFT.out _ _ _ _ _ (by omega) D8).mono ?_
    rintro e z4 ⟨rfl, hb⟩
    have hC := since_step hC hb
    have D8 := D8.below hb
    have X8 := X8.below hb
    clear hb b1_ b2_ b3_ b4_ b5_
    clear d0 d1 i0 i1 i2 i3 i4 f0 f1 u0 u1
    obtain ⟨⟨d0, d1⟩, ⟨i0, i1, i2, i3, i4⟩, ⟨f0, f1⟩, ⟨u0, u1⟩⟩ := HC.out _ hC
    go_wp2_with fail
    refine (HMV.out _ _ (HW.out _ (since_alloc hC _)) (Sl.new_ z4 (rc Lg.cells [⟨i.id, q⟩]) 75)).mono ?_
    rintro e z5 ⟨⟨m5, A5, k5, rfl, s5, t5, _⟩, hb⟩
    have hb := since_step (since_alloc (Below.refl _ z4) (.cells #[.int .i64 i.id, .int .i64 q] 75)) hb
    have hC := since_step hC hb
    have D8 := D8.below hb
    have X8 := X8.below hb
    clear hb
    clear d0 d1 i0 i1 i2 i3 i4 f0 f1 u0 u1
    obtain ⟨⟨d0, d1⟩, ⟨i0, i1, i2, i3, i4⟩, ⟨f0, f1⟩, ⟨u0, u1⟩⟩ := HC.out _ hC
    obtain ⟨b1_, b2_, b3_, b4_, b5_⟩ := id X8
    go_wp2_with fail
    refine (HNG.out _ _ _ _ _ (by omega) D8).mono ?_
    rintro e z6 ⟨⟨s9, n9, c9, rfl, hle9, D9⟩, hb⟩
    have hC := since_step hC hb
    have D8 := D8.below hb
    have X8 := X8.below hb
    have s5 := s5.below hb
    have t5 := t5.below hb
    clear hb b1_ b2_ b3_ b4_ b5_
    clear d0 d1 i0 i1 i2 i3 i4 f0 f1 u0 u1
    obtain ⟨⟨d0, d1⟩, ⟨i0, i1, i2, i3, i4⟩, ⟨f0, f1⟩, ⟨u0, u1⟩⟩ := HC.out _ hC
    go_wp2_with fail
    refine (HFN.out _ _ _ _ _ (by omega) D9).mono ?_
    rintro e z7 ⟨rfl, hb⟩
    have hC := since_step hC hb
    have D8 := D8.below hb
    have X8 := X8.below hb
    have s5 := s5.below hb
    have t5 := t5.below hb
    clear hb D9 hle9
    clear d0 d1 i0 i1 i2 i3 i4 f0 f1 u0 u1
    go_upto_region 15 with fail
    generalize hYY : z7 = Y at *
    clear hYY
    have HD8 : Hid (∀ V, Below Y.heap.size Y V → BigAt V s8 A8 n8 c8 gz) := Lib.hid fun V h => D8.below h
    have HCY : Hid (∀ V, Below Y.heap.size Y V → Below W.heap.size W V) := Lib.hid fun V h => hC.trans (h.mono hC.size)
    have HYW : Hid (∀ V, Below Y.heap.size Y V → Below w.heap.size w V) := Lib.hid fun V h => HW.out _ (HCY.out V h)
    have HY : Hid (∀ V, Below Y.heap.size Y V → V.cell? ⟨w.heap.size, 1, none⟩ = some (.slice FA p.length fcp) ∧ (V.cell? ⟨w.heap.size + 1 + 1, 0, none⟩ = some (.int .i64 fa) ∧ V.cell? ⟨w.heap.size + 1 + 1, 1, none⟩ = some (.int .i64 fc)) ∧ (V.cell? ⟨w.heap.size + 1 + 1 + 1, 0, none⟩ = some (.int .i64 ta) ∧ V.cell? ⟨w.heap.size + 1 + 1 + 1, 1, none⟩ = some (.int .i64 tc)) ∧ (V.cell? ⟨z3.heap.size, 0, none⟩ = some (.bool s8) ∧ V.cell? ⟨z3.heap.size, 1, none⟩ = some (.slice A8 n8 c8))) := Lib.hid fun V h => by
      obtain ⟨⟨_, d1⟩, _, ⟨f0, f1⟩, ⟨u0, u1⟩⟩ := HC.out _ (HCY.out V h)
      obtain ⟨_, v0, v1, _, _⟩ := id (X8.below h)
      exact ⟨d1, ⟨f0, f1⟩, ⟨u0, u1⟩, ⟨v0, v1⟩⟩
    have L8 : Hid (n8 ≤ 1000000) := Lib.hid (by omega)
    have HS5 : Hid (∀ V, Below Y.heap.size Y V → Sl V A5 (rc Po.cells m5) ∧ PoTab V m5 B) := Lib.hid fun V h => ⟨s5.below h, t5.below h⟩
    clear D8 X8 s5 t5 hC HFN
    go_wp2_with fail
    refine wp_region_held_drew (S := (fun V => Below Y.heap.size Y V)) (by kernel_rfl) (by exact (Below.refl _ _).drew) (fun hHeld => ?_)
    refine tkZ (i := 0) (oi := ⟨some 84, _, _, _, _, _⟩) (v := ?_) rfl (by kernel_rfl) (fun _ _ _ h => h) (Or.inl ⟨by rfl, ?_⟩) hHeld ?_
    rotate_left
    · (intro w hSw; clear hSw; go_simp <;> with_reducible rfl)
    try simp only [pqZ]
    refine tkZ (i := 1) (oi := ⟨some 85, _, _, _, _, _⟩) (v := ?_) rfl (by kernel_rfl) (fun _ _ _ h => h) (Or.inl ⟨by rfl, ?_⟩) hHeld ?_
    rotate_left
    · (intro w hSw; obtain ⟨d1, ⟨f0, f1⟩, ⟨u0, u1⟩, ⟨v0, v1⟩⟩ := HY.out _ (hSw); go_simp <;> with_reducible rfl)
    try simp only [pqZ]
    refine tkZ (i := 2) (oi := ⟨some 86, _, _, _, _, _⟩) (v := ?_) rfl (by kernel_rfl) (fun _ _ _ h => h) (Or.inl ⟨by rfl, ?_⟩) hHeld ?_
    rotate_left
    · (intro w hSw; obtain ⟨d1, ⟨f0, f1⟩, ⟨u0, u1⟩, ⟨v0, v1⟩⟩ := HY.out _ (hSw); go_simp <;> with_reducible rfl)
    try simp only [pqZ]
    refine tkZ (i := 3) (oi := ⟨some 87, _, _, _, _, _⟩) (v := ?_) rfl (by kernel_rfl) (fun _ _ _ h => h) (Or.inl ⟨by rfl, ?_⟩) hHeld ?_
    rotate_left
    · (intro w hSw; obtain ⟨d1, ⟨f0, f1⟩, ⟨u0, u1⟩, ⟨v0, v1⟩⟩ := HY.out _ (hSw); go_simp <;> with_reducible rfl)
    try simp only [pqZ]
    refine tkZ (i := 7) (oi := ⟨some 91, _, _, _, _, _⟩) (v := ?_) rfl (by kernel_rfl) (fun _ _ _ h => h) (Or.inl ⟨by rfl, ?_⟩) hHeld ?_
    rotate_left
    · (intro w hSw; obtain ⟨d1, ⟨f0, f1⟩, ⟨u0, u1⟩, ⟨v0, v1⟩⟩ := HY.out _ (hSw); go_simp <;> with_reducible rfl)
    try simp only [pqZ]
    refine tkZ (i := 8) (oi := ⟨some 92, _, _, _, _, _⟩) (v := ?_) rfl (by kernel_rfl) (fun _ _ _ h => h) (Or.inl ⟨by rfl, ?_⟩) hHeld ?_
    rotate_left
    · (intro w hSw; obtain ⟨d1, ⟨f0, f1⟩, ⟨u0, u1⟩, ⟨v0, v1⟩⟩ := HY.out _ (hSw); go_simp <;> with_reducible rfl)
    try simp only [pqZ]
    refine wpAnyH_ready (rs := [4]) (by kernel_rfl) (by simp) ?_
    refine AllReadyH.cons (o := ⟨some 88, _, _, _, _, _⟩) rfl (fun K hK => ?_) AllReadyH.nil
    go_simp
    refine (HNG.out _ _ _ _ _ L8.out (HD8.out _ hHeld)).mono ?_
    rintro e x1 ⟨⟨s9, n9, c9, rfl, hle9, D9⟩, hk1⟩
    have hKeep := since_step hHeld hk1
    go_wp2_with fail
    refine hK.out _ _ (by (try dsimp only); exact hKeep) (fun hHeld => ?_)
    clear hK K hKeep
    try simp only [pqZ]
    refine wpAnyH_ready (rs := [5]) (by kernel_rfl) (by simp) ?_
    refine AllReadyH.cons (o := ⟨some 89, _, _, _, _, _⟩) rfl (fun K hK => ?_) AllReadyH.nil
    go_simp
    refine (HIN1.out _ _ _ _ _ D9).mono ?_
    rintro e x2 ⟨rfl, hk2⟩
    have hKeep := since_step hHeld hk2
    clear D9
    go_wp2_with fail
    refine hK.out _ _ (by (try dsimp only); exact hKeep) (fun hHeld => ?_)
    clear hK K hKeep
    try simp only [pqZ]
    refine tkZ (i := 6) (oi := ⟨some 90, _, _, _, _, _⟩) (v := ?_) rfl (by kernel_rfl) (fun _ _ _ h => h) (Or.inl ⟨by rfl, ?_⟩) hHeld ?_
    rotate_left
    · (intro w hSw; clear hSw; go_simp <;> with_reducible rfl)
    try simp only [pqZ]
    refine wpAnyH_ready (rs := [9]) (by kernel_rfl) (by simp) ?_
    refine AllReadyH.cons (o := ⟨some 93, _, _, _, _, _⟩) rfl (fun K hK => ?_) AllReadyH.nil
    go_simp
    refine (HIN2.out _ _ _ _ _ (HD8.out _ hHeld)).mono ?_
    rintro e x3 ⟨rfl, hk3⟩
    have hKeep := since_step hHeld hk3
    go_wp2_with fail
    refine hK.out _ _ (by (try dsimp only); exact hKeep) (fun hHeld => ?_)
    clear hK K hKeep
    try simp only [pqZ]
    refine tkZ (i := 10) (oi := ⟨some 94, _, _, _, _, _⟩) (v := ?_) rfl (by kernel_rfl) (fun _ _ _ h => h) (Or.inl ⟨by rfl, ?_⟩) hHeld ?_
    rotate_left
    · (intro w hSw; clear hSw; go_simp <;> with_reducible rfl)
    try simp only [pqZ]
    refine wpAnyH_ready (rs := [11]) (by kernel_rfl) (by simp) ?_
    refine AllReadyH.cons (o := ⟨some 95, _, _, _, _, _⟩) rfl (fun K hK => ?_) AllReadyH.nil
    have hHd := hHeld
    obtain ⟨d1, ⟨f0, f1⟩, ⟨u0, u1⟩, ⟨v0, v1⟩⟩ := HY.out _ (hHd)
    have hKeep := since_alloc hHeld (.cells (rc Fw.cells [⟨fa, fc, -gz⟩, ⟨ta, tc, gz⟩]).toArray 86)
    have HU := Sl.new_ x3 (rc Fw.cells [⟨fa, fc, -gz⟩, ⟨ta, tc, gz⟩]) 86
    skip
    go_simp
    refine hK.out _ _ (by (try dsimp only); exact hKeep) (fun hHeld => ?_)
    clear hK K hKeep
    try simp only [pqZ]
    refine wpAnyH_ready (rs := [12]) (by kernel_rfl) (by simp) ?_
    refine AllReadyH.cons (o := ⟨some 96, _, _, _, _, _⟩) rfl (fun K hK => ?_) AllReadyH.nil
    go_simp
    refine (HPY.out _ _ (HYW.out _ hHeld) HU).mono ?_
    rintro e x4 ⟨hr, hk4⟩
    obtain ⟨A6, k6, rfl, s6⟩ := hr.of
    have hKeep := since_step hHeld hk4
    clear HU
    go_wp2_with fail
    refine hK.out _ _ (by (try dsimp only); exact hKeep) (fun hHeld => ?_)
    clear hK K hKeep
    try simp only [pqZ]
    refine tkZ (i := 13) (oi := ⟨some 83, _, _, _, _, _⟩) (v := ?_) rfl (by kernel_rfl) (fun _ _ _ h => h) (Or.inl ⟨by rfl, ?_⟩) hHeld ?_
    rotate_left
    · (intro w hSw; clear hSw; go_simp <;> with_reducible rfl)
    try simp only [pqZ]
    refine tkZ (i := 14) (oi := ⟨some 97, _, _, _, _, _⟩) (v := ?_) rfl (by kernel_rfl) (fun _ _ _ h => h) (Or.inl ⟨by rfl, ?_⟩) hHeld ?_
    rotate_left
    · (intro w hSw; clear hSw; go_simp <;> with_reducible rfl)
    try simp only [pqZ]
    refine tkZ (i := 15) (oi := ⟨some 98, _, _, _, _, _⟩) (v := ?_) rfl (by kernel_rfl) (fun _ _ _ h => h) (Or.inl ⟨by rfl, ?_⟩) hHeld ?_
    rotate_left
    · (intro w hSw; clear hSw; go_simp <;> with_reducible rfl)
    try simp only [pqZ]
    refine tkZ (i := 16) (oi := ⟨some 17, _, _, _, _, _⟩) (v := ?_) rfl (by kernel_rfl) (fun _ _ _ h => h) (Or.inl ⟨by rfl, ?_⟩) hHeld ?_
    rotate_left
    · (intro w hSw; clear hSw; go_simp <;> with_reducible rfl)
    try simp only [pqZ]
    refine tkZ (i := 17) (oi := ⟨some 18, _, _, _, _, _⟩) (v := ?_) rfl (by kernel_rfl) (fun _ _ _ h => h) (Or.inl ⟨by rfl, ?_⟩) hHeld ?_
    rotate_left
    · (intro w hSw; clear hSw; go_simp <;> with_reducible rfl)
    try simp only [pqZ]
    refine wpAnyH_done (by kernel_rfl) ?_ _
    have hC := HCY.out _ hHeld
    have HDK : Hid (Dk x4 A5 m5 B A6 P) := Lib.hid ⟨(HS5.out _ hHeld).1, (HS5.out _ hHeld).2, s6⟩
    clear s6 hHeld HS5 HY HYW HD8 HCY HNG HIN1 HIN2 HPY
    obtain ⟨⟨d0, d1⟩, ⟨i0, i1, i2, i3, i4⟩, ⟨f0, f1⟩, ⟨u0, u1⟩⟩ := HC.out _ hC
    obtain ⟨x0, x1, x2, x3, x4⟩ := (HX.out _ hC).got
    have hBn := HW.out _ hC
    have hcs := @cell_set
    go_wp2_with fail
    refine bodyPost_ret (v := .tuple #[.agg #[.slice A5 m5.length k5, .slice A6 P.length k6], .int .i64 0]) ?_ rfl ⟨?_, ?_⟩
    · simp [results, Tryz.results9, go_sem, x0, x1, x2, hcs]
    · rw [HR.out]; exact ⟨m5, A5, k5, A6, k6, rfl, HDK.out.off2 (HX.out _ hC) _ _⟩
    · repeat' (first | with_reducible exact hBn | with_reducible refine Below.setCell ?_ ?_ _ | with_reducible refine Below.alloc ?_ ?_ _)
      all_goals first | (simp; done) | (simp; omega)
theorem rdat_any (A : Option Addr) (cap : Nat) (l : List Po) (cs : List Pc) (FA : Option Addr) (fcp : Nat) (p : List Fw) (i : Ins) (IA : Option Addr) (IC : Nat) (fa fc ta tc q pr : Int) (w : World) (hl : l.length ≤ 800000) (hcl : ∀ g ∈ cs, g.L.length ≤ 400000) (h6 : ∀ g ∈ cs, ∀ y ∈ g.L, In64 y.qty) (hpn : p.length ≤ 40000) (hpi : ∀ x ∈ p, Fw.in_ x) (hu : In64 fa ∧ In64 fc ∧ In64 ta ∧ In64 tc) (hq : In64 q) (hpr : In64 pr) (hd : Dk w A l cs FA p) (hi : InsAt w i IA IC) :
    Calls Tryz.prog 9 #[.agg #[.slice A l.length cap, .slice FA p.length fcp], insV i IA IC, .agg #[.int .i64 fa, .int .i64 fc], .agg #[.int .i64 ta, .int .i64 tc], .int .i64 q, .int .i64 pr] w fun e w' => DRes w' e (dealR cs p i fa fc ta tc q pr).1 (dealR cs p i fa fc ta tc q pr).2.1 (dealR cs p i fa fc ta tc q pr).2.2 ∧ Below w.heap.size w w' := by
  cases h1 : isH cs with
  | false => exact rdat_A A cap l cs FA fcp p i IA IC fa fc ta tc q pr w hl hcl h6 hpn hpi hu hq hpr hd hi (by rw [h1]; rfl) (.inl h1)
  | true =>
    cases h2 : isF p with
    | false => exact rdat_A A cap l cs FA fcp p i IA IC fa fc ta tc q pr w hl hcl h6 hpn hpi hu hq hpr hd hi (by rw [h1, h2]; rfl) (.inr h2)
    | true =>
      cases h3 : dchk i q pr with
      | false => exact rdat_B A cap l cs FA fcp p i IA IC fa fc ta tc q pr w hl hcl h6 hpn hpi hu hq hpr hd hi h1 h2 h3
      | true =>
        by_cases h4 : fa = ta ∧ fc = tc
        · exact rdat_C A cap l cs FA fcp p i IA IC fa fc ta tc q pr w hl hcl h6 hpn hpi hu hq hpr hd hi h1 h2 h3 h4
        · obtain ⟨n, B, h6m⟩ : ∃ n B, moveP cs fa fc ta tc [⟨i.id, q⟩] = (n, B) := ⟨_, _, rfl⟩
          obtain ⟨m, P, h7⟩ : ∃ m P, moveR p fa fc ta tc (gainZ i q pr i.price) = (m, P) := ⟨_, _, rfl⟩
          by_cases h5 : In64 (gainZ i q pr i.price)
          · by_cases hn : n = 0
            · subst hn
              by_cases h8 : In64 (-gainZ i q pr i.price)
              · by_cases hm : m = 0
                · subst hm; exact rdat_G0 A cap l cs FA fcp p i IA IC fa fc ta tc q pr w hl hcl h6 hpn hpi hu hq hpr hd hi B P h1 h2 h3 h4 h5 h6m h8 h7
                · exact rdat_F0 A cap l cs FA fcp p i IA IC fa fc ta tc q pr w hl hcl h6 hpn hpi hu hq hpr hd hi m B P h1 h2 h3 h4 h5 h6m h8 h7 hm
              · exact rdat_N0 A cap l cs FA fcp p i IA IC fa fc ta tc q pr w hl hcl h6 hpn hpi hu hq hpr hd hi B h1 h2 h3 h4 h5 h6m h8
            · exact rdat_E0 A cap l cs FA fcp p i IA IC fa fc ta tc q pr w hl hcl h6 hpn hpi hu hq hpr hd hi n B h1 h2 h3 h4 h5 h6m hn
          · exact rdat_D0 A cap l cs FA fcp p i IA IC fa fc ta tc q pr w hl hcl h6 hpn hpi hu hq hpr hd hi h1 h2 h3 h4 h5
end Go.Proofs.YtahdmomadbbhoaaGreat
end
