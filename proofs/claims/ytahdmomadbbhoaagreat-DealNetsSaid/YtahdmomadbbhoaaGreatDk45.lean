import Derived.Test.YtahdmomadbbhoaaGreatDk44
section
namespace Go.Proofs.YtahdmomadbbhoaaGreat
open Go.ChangeShapes Go.WideShapes Go.ChangeAt Go.RowKit
set_option linter.unusedVariables false
set_option linter.unusedSimpArgs false

theorem fV_is {z : Int} (h : In64 z) : fV z = z ∧ fE z = 0 := by unfold fV fE; rw [if_pos h, if_pos h]; exact ⟨rfl, rfl⟩
theorem fV_no {z : Int} (h : ¬ In64 z) : fV z = 0 ∧ fE z = 7 := by unfold fV fE; rw [if_neg h, if_neg h]; exact ⟨rfl, rfl⟩
set_option maxHeartbeats 16000000 in
set_option maxRecDepth 100000 in
theorem dat_A (A : Option Addr) (cap : Nat) (l : List Po) (cs : List Pc) (FA : Option Addr) (fcp : Nat) (p : List Fw) (i : Ins) (IA : Option Addr) (IC : Nat) (fa fc ta tc q pr : Int) (w : World) (hl : l.length ≤ 800000) (hcl : ∀ g ∈ cs, g.L.length ≤ 400000) (h6 : ∀ g ∈ cs, ∀ y ∈ g.L, In64 y.qty) (hpn : p.length ≤ 40000) (hpi : ∀ x ∈ p, Fw.in_ x) (hu : In64 fa ∧ In64 fc ∧ In64 ta ∧ In64 tc) (hq : In64 q) (hpr : In64 pr) (hd : Dk w A l cs FA p) (hi : InsAt w i IA IC) (hb0 : (isH cs && isF p) = false) (hb1 : isH cs = false ∨ isF p = false) :
    Calls Tryz.prog 8 #[.agg #[.slice A l.length cap, .slice FA p.length fcp], insV i IA IC, .agg #[.int .i64 fa, .int .i64 fc], .agg #[.int .i64 ta, .int .i64 tc], .int .i64 q, .int .i64 pr] w fun e w' => DRes w' e (dealR cs p i fa fc ta tc q pr).1 (dealR cs p i fa fc ta tc q pr).2.1 (dealR cs p i fa fc ta tc q pr).2.2 ∧ Below w.heap.size w w' := by
  have hB0 := since_alloc (since_alloc (since_alloc (since_alloc (since_alloc (Below.refl _ w) (.cells #[.slice A l.length cap, .slice FA p.length fcp] 30)) (.cells #[.int .i64 i.id, .int .i64 i.mult, .int .i64 i.price, .int .i64 i.nxt, .slice IA i.mv.length IC] 26)) (.cells #[.int .i64 fa, .int .i64 fc] 28)) (.cells #[.int .i64 ta, .int .i64 tc] 28)) (.cells #[.slice none 0 0, .slice none 0 0] 30)
  have K0 := (((((Bk.new w #[.slice A l.length cap, .slice FA p.length fcp] 30).alloc (.cells #[.int .i64 i.id, .int .i64 i.mult, .int .i64 i.price, .int .i64 i.nxt, .slice IA i.mv.length IC] 26)).alloc (.cells #[.int .i64 fa, .int .i64 fc] 28)).alloc (.cells #[.int .i64 ta, .int .i64 tc] 28)).alloc (.cells #[.slice none 0 0, .slice none 0 0] 30))
  have K1 := ((((Bk.new (w.alloc (.cells #[.slice A l.length cap, .slice FA p.length fcp] 30)) #[.int .i64 i.id, .int .i64 i.mult, .int .i64 i.price, .int .i64 i.nxt, .slice IA i.mv.length IC] 26).alloc (.cells #[.int .i64 fa, .int .i64 fc] 28)).alloc (.cells #[.int .i64 ta, .int .i64 tc] 28)).alloc (.cells #[.slice none 0 0, .slice none 0 0] 30))
  rw [World.size_alloc] at K1
  have K2 := (((Bk.new ((w.alloc (.cells #[.slice A l.length cap, .slice FA p.length fcp] 30)).alloc (.cells #[.int .i64 i.id, .int .i64 i.mult, .int .i64 i.price, .int .i64 i.nxt, .slice IA i.mv.length IC] 26)) #[.int .i64 fa, .int .i64 fc] 28).alloc (.cells #[.int .i64 ta, .int .i64 tc] 28)).alloc (.cells #[.slice none 0 0, .slice none 0 0] 30))
  rw [World.size_alloc, World.size_alloc] at K2
  have K3 := ((Bk.new (((w.alloc (.cells #[.slice A l.length cap, .slice FA p.length fcp] 30)).alloc (.cells #[.int .i64 i.id, .int .i64 i.mult, .int .i64 i.price, .int .i64 i.nxt, .slice IA i.mv.length IC] 26)).alloc (.cells #[.int .i64 fa, .int .i64 fc] 28)) #[.int .i64 ta, .int .i64 tc] 28).alloc (.cells #[.slice none 0 0, .slice none 0 0] 30))
  rw [World.size_alloc, World.size_alloc, World.size_alloc] at K3
  have X := DB.new ((((w.alloc (.cells #[.slice A l.length cap, .slice FA p.length fcp] 30)).alloc (.cells #[.int .i64 i.id, .int .i64 i.mult, .int .i64 i.price, .int .i64 i.nxt, .slice IA i.mv.length IC] 26)).alloc (.cells #[.int .i64 fa, .int .i64 fc] 28)).alloc (.cells #[.int .i64 ta, .int .i64 tc] 28)) 30
  rw [World.size_alloc, World.size_alloc, World.size_alloc, World.size_alloc] at X
  have hBW : Hid (∀ V, Below w.heap.size w V → Dk V A l cs FA p) := Lib.hid fun V h => hd.below h
  have hIW : Hid (∀ V, Below w.heap.size w V → InsAt V i IA IC) := Lib.hid fun V h => hi.below h
  unfold insV
  have hi6 := hi.n64
  clear hd hi
  go_enter Tryz.func8, Tryz.ntmps8
  go_upto_region 1 with fail
  generalize hWW : (((((w.alloc (.cells #[.slice A l.length cap, .slice FA p.length fcp] 30)).alloc (.cells #[.int .i64 i.id, .int .i64 i.mult, .int .i64 i.price, .int .i64 i.nxt, .slice IA i.mv.length IC] 26)).alloc (.cells #[.int .i64 fa, .int .i64 fc] 28)).alloc (.cells #[.int .i64 ta, .int .i64 tc] 28)).alloc (.cells #[.slice none 0 0, .slice none 0 0] 30)) = W at *
  clear hWW
  have HC : Hid (∀ V, Below W.heap.size W V → (V.cell? ⟨w.heap.size, 0, none⟩ = some (.slice A l.length cap) ∧ V.cell? ⟨w.heap.size, 1, none⟩ = some (.slice FA p.length fcp)) ∧ (V.cell? ⟨w.heap.size + 1, 0, none⟩ = some (.int .i64 i.id) ∧ V.cell? ⟨w.heap.size + 1, 1, none⟩ = some (.int .i64 i.mult) ∧ V.cell? ⟨w.heap.size + 1, 2, none⟩ = some (.int .i64 i.price) ∧ V.cell? ⟨w.heap.size + 1, 3, none⟩ = some (.int .i64 i.nxt) ∧ V.cell? ⟨w.heap.size + 1, 4, none⟩ = some (.slice IA i.mv.length IC)) ∧ (V.cell? ⟨w.heap.size + 1 + 1, 0, none⟩ = some (.int .i64 fa) ∧ V.cell? ⟨w.heap.size + 1 + 1, 1, none⟩ = some (.int .i64 fc)) ∧ (V.cell? ⟨w.heap.size + 1 + 1 + 1, 0, none⟩ = some (.int .i64 ta) ∧ V.cell? ⟨w.heap.size + 1 + 1 + 1, 1, none⟩ = some (.int .i64 tc))) := Lib.hid fun V h => ⟨⟨(K0.below h).2 0, (K0.below h).2 1⟩, ⟨(K1.below h).2 0, (K1.below h).2 1, (K1.below h).2 2, (K1.below h).2 3, (K1.below h).2 4⟩, ⟨(K2.below h).2 0, (K2.below h).2 1⟩, ⟨(K3.below h).2 0, (K3.below h).2 1⟩⟩
  have HX : Hid (∀ V, Below W.heap.size W V → DB V (w.heap.size + 1 + 1 + 1 + 1)) := Lib.hid fun V h => X.below h
  have HW : Hid (∀ V, Below W.heap.size W V → Below w.heap.size w V) := Lib.hid fun V h => hB0.trans (h.mono hB0.size)
  have hC := Below.refl W.heap.size W
  clear K0 K1 K2 K3 X hB0
  have HIS := fun V (h : Below w.heap.size w V) => dis_any A cap l cs FA fcp p V (by omega) (fun g hg => Nat.le_trans (hcl g hg) (by omega)) (by omega) (hBW.out V h)
  rw [hb0] at HIS
  have HIS := Lib.hid HIS
  have HR := Lib.hid (dealR_form (i := i) (fa := fa) (fc := fc) (ta := ta) (tc := tc) (q := q) (pr := pr) hb1)
  clear hb0 hb1
  obtain ⟨⟨d0, d1⟩, ⟨i0, i1, i2, i3, i4⟩, ⟨f0, f1⟩, ⟨u0, u1⟩⟩ := HC.out _ hC
  go_wp2_with fail
  refine (HIS.out _ (HW.out _ hC)).mono ?_
  rintro e z1 ⟨rfl, hb⟩
  have hC := since_step hC hb
  clear hb
  clear d0 d1 i0 i1 i2 i3 i4 f0 f1 u0 u1
  obtain ⟨⟨d0, d1⟩, ⟨i0, i1, i2, i3, i4⟩, ⟨f0, f1⟩, ⟨u0, u1⟩⟩ := HC.out _ hC
  obtain ⟨x0, x1, x2, x3, x4⟩ := (HX.out _ hC).got
  have hBn := HW.out _ hC
  have hcs := @cell_set
  go_wp2_with fail
  refine bodyPost_ret (v := .tuple #[.agg #[.slice none 0 0, .slice none 0 0], .int .i64 (3)]) ?_ rfl ⟨?_, ?_⟩
  · simp [results, Tryz.results8, go_sem, x0, x1, x2, hcs]
  · rw [HR.out]; exact DRes.nil _ _
  · repeat' (first | with_reducible exact hBn | with_reducible refine Below.setCell ?_ ?_ _ | with_reducible refine Below.alloc ?_ ?_ _)
    all_goals first | (simp; done) | (simp; omega)
set_option maxHeartbeats 16000000 in
set_option maxRecDepth 100000 in
theorem dat_B (A : Option Addr) (cap : Nat) (l : List Po) (cs : List Pc) (FA : Option Addr) (fcp : Nat) (p : List Fw) (i : Ins) (IA : Option Addr) (IC : Nat) (fa fc ta tc q pr : Int) (w : World) (hl : l.length ≤ 800000) (hcl : ∀ g ∈ cs, g.L.length ≤ 400000) (h6 : ∀ g ∈ cs, ∀ y ∈ g.L, In64 y.qty) (hpn : p.length ≤ 40000) (hpi : ∀ x ∈ p, Fw.in_ x) (hu : In64 fa ∧ In64 fc ∧ In64 ta ∧ In64 tc) (hq : In64 q) (hpr : In64 pr) (hd : Dk w A l cs FA p) (hi : InsAt w i IA IC) (h1 : isH cs = true) (h2 : isF p = true) (h3 : dchk i q pr = false) :
    Calls Tryz.prog 8 #[.agg #[.slice A l.length cap, .slice FA p.length fcp], insV i IA IC, .agg #[.int .i64 fa, .int .i64 fc], .agg #[.int .i64 ta, .int .i64 tc], .int .i64 q, .int .i64 pr] w fun e w' => DRes w' e (dealR cs p i fa fc ta tc q pr).1 (dealR cs p i fa fc ta tc q pr).2.1 (dealR cs p i fa fc ta tc q pr).2.2 ∧ Below w.heap.size w w' := by
  have hB0 := since_alloc (since_alloc (since_alloc (since_alloc (since_alloc (Below.refl _ w) (.cells #[.slice A l.length cap, .slice FA p.length fcp] 30)) (.cells #[.int .i64 i.id, .int .i64 i.mult, .int .i64 i.price, .int .i64 i.nxt, .slice IA i.mv.length IC] 26)) (.cells #[.int .i64 fa, .int .i64 fc] 28)) (.cells #[.int .i64 ta, .int .i64 tc] 28)) (.cells #[.slice none 0 0, .slice none 0 0] 30)
  have K0 := (((((Bk.new w #[.slice A l.length cap, .slice FA p.length fcp] 30).alloc (.cells #[.int .i64 i.id, .int .i64 i.mult, .int .i64 i.price, .int .i64 i.nxt, .slice IA i.mv.length IC] 26)).alloc (.cells #[.int .i64 fa, .int .i64 fc] 28)).alloc (.cells #[.int .i64 ta, .int .i64 tc] 28)).alloc (.cells #[.slice none 0 0, .slice none 0 0] 30))
  have K1 := ((((Bk.new (w.alloc (.cells #[.slice A l.length cap, .slice FA p.length fcp] 30)) #[.int .i64 i.id, .int .i64 i.mult, .int .i64 i.price, .int .i64 i.nxt, .slice IA i.mv.length IC] 26).alloc (.cells #[.int .i64 fa, .int .i64 fc] 28)).alloc (.cells #[.int .i64 ta, .int .i64 tc] 28)).alloc (.cells #[.slice none 0 0, .slice none 0 0] 30))
  rw [World.size_alloc] at K1
  have K2 := (((Bk.new ((w.alloc (.cells #[.slice A l.length cap, .slice FA p.length fcp] 30)).alloc (.cells #[.int .i64 i.id, .int .i64 i.mult, .int .i64 i.price, .int .i64 i.nxt, .slice IA i.mv.length IC] 26)) #[.int .i64 fa, .int .i64 fc] 28).alloc (.cells #[.int .i64 ta, .int .i64 tc] 28)).alloc (.cells #[.slice none 0 0, .slice none 0 0] 30))
  rw [World.size_alloc, World.size_alloc] at K2
  have K3 := ((Bk.new (((w.alloc (.cells #[.slice A l.length cap, .slice FA p.length fcp] 30)).alloc (.cells #[.int .i64 i.id, .int .i64 i.mult, .int .i64 i.price, .int .i64 i.nxt, .slice IA i.mv.length IC] 26)).alloc (.cells #[.int .i64 fa, .int .i64 fc] 28)) #[.int .i64 ta, .int .i64 tc] 28).alloc (.cells #[.slice none 0 0, .slice none 0 0] 30))
  rw [World.size_alloc, World.size_alloc, World.size_alloc] at K3
  have X := DB.new ((((w.alloc (.cells #[.slice A l.length cap, .slice FA p.length fcp] 30)).alloc (.cells #[.int .i64 i.id, .int .i64 i.mult, .int .i64 i.price, .int .i64 i.nxt, .slice IA i.mv.length IC] 26)).alloc (.cells #[.int .i64 fa, .int .i64 fc] 28)).alloc (.cells #[.int .i64 ta, .int .i64 tc] 28)) 30
  rw [World.size_alloc, World.size_alloc, World.size_alloc, World.size_alloc] at X
  have hBW : Hid (∀ V, Below w.heap.size w V → Dk V A l cs FA p) := Lib.hid fun V h => hd.below h
  have hIW : Hid (∀ V, Below w.heap.size w V → InsAt V i IA IC) := Lib.hid fun V h => hi.below h
  unfold insV
  have hi6 := hi.n64
  clear hd hi
  go_enter Tryz.func8, Tryz.ntmps8
  go_upto_region 1 with fail
  generalize hWW : (((((w.alloc (.cells #[.slice A l.length cap, .slice FA p.length fcp] 30)).alloc (.cells #[.int .i64 i.id, .int .i64 i.mult, .int .i64 i.price, .int .i64 i.nxt, .slice IA i.mv.length IC] 26)).alloc (.cells #[.int .i64 fa, .int .i64 fc] 28)).alloc (.cells #[.int .i64 ta, .int .i64 tc] 28)).alloc (.cells #[.slice none 0 0, .slice none 0 0] 30)) = W at *
  clear hWW
  have HC : Hid (∀ V, Below W.heap.size W V → (V.cell? ⟨w.heap.size, 0, none⟩ = some (.slice A l.length cap) ∧ V.cell? ⟨w.heap.size, 1, none⟩ = some (.slice FA p.length fcp)) ∧ (V.cell? ⟨w.heap.size + 1, 0, none⟩ = some (.int .i64 i.id) ∧ V.cell? ⟨w.heap.size + 1, 1, none⟩ = some (.int .i64 i.mult) ∧ V.cell? ⟨w.heap.size + 1, 2, none⟩ = some (.int .i64 i.price) ∧ V.cell? ⟨w.heap.size + 1, 3, none⟩ = some (.int .i64 i.nxt) ∧ V.cell? ⟨w.heap.size + 1, 4, none⟩ = some (.slice IA i.mv.length IC)) ∧ (V.cell? ⟨w.heap.size + 1 + 1, 0, none⟩ = some (.int .i64 fa) ∧ V.cell? ⟨w.heap.size + 1 + 1, 1, none⟩ = some (.int .i64 fc)) ∧ (V.cell? ⟨w.heap.size + 1 + 1 + 1, 0, none⟩ = some (.int .i64 ta) ∧ V.cell? ⟨w.heap.size + 1 + 1 + 1, 1, none⟩ = some (.int .i64 tc))) := Lib.hid fun V h => ⟨⟨(K0.below h).2 0, (K0.below h).2 1⟩, ⟨(K1.below h).2 0, (K1.below h).2 1, (K1.below h).2 2, (K1.below h).2 3, (K1.below h).2 4⟩, ⟨(K2.below h).2 0, (K2.below h).2 1⟩, ⟨(K3.below h).2 0, (K3.below h).2 1⟩⟩
  have HX : Hid (∀ V, Below W.heap.size W V → DB V (w.heap.size + 1 + 1 + 1 + 1)) := Lib.hid fun V h => X.below h
  have HW : Hid (∀ V, Below W.heap.size W V → Below w.heap.size w V) := Lib.hid fun V h => hB0.trans (h.mono hB0.size)
  have hC := Below.refl W.heap.size W
  clear K0 K1 K2 K3 X hB0
  have HIS := fun V (h : Below w.heap.size w V) => dis_any A cap l cs FA fcp p V (by omega) (fun g hg => Nat.le_trans (hcl g hg) (by omega)) (by omega) (hBW.out V h)
  rw [h1, h2, Bool.and_self] at HIS
  have HIS := Lib.hid HIS
  have hCK := fun V (h : Below w.heap.size w V) => dcheck_any i IA IC q pr V (hIW.out V h)
  rw [if_neg (by simp [h3])] at hCK
  unfold insV at hCK
  have HCK := Lib.hid hCK
  clear hCK
  have HR := Lib.hid (dealR_arg (fa := fa) (fc := fc) (ta := ta) (tc := tc) h1 h2 h3)
  clear h1 h2 h3
  obtain ⟨⟨d0, d1⟩, ⟨i0, i1, i2, i3, i4⟩, ⟨f0, f1⟩, ⟨u0, u1⟩⟩ := HC.out _ hC
  go_wp2_with fail
  refine (HIS.out _ (HW.out _ hC)).mono ?_
  rintro e z1 ⟨rfl, hb⟩
  have hC := since_step hC hb
  clear hb
  clear d0 d1 i0 i1 i2 i3 i4 f0 f1 u0 u1
  obtain ⟨⟨d0, d1⟩, ⟨i0, i1, i2, i3, i4⟩, ⟨f0, f1⟩, ⟨u0, u1⟩⟩ := HC.out _ hC
  go_wp2_with fail
  refine (HCK.out _ (HW.out _ hC)).mono ?_
  rintro e z2 ⟨rfl, hb⟩
  have hC := since_step hC hb
  clear hb
  clear d0 d1 i0 i1 i2 i3 i4 f0 f1 u0 u1
  obtain ⟨⟨d0, d1⟩, ⟨i0, i1, i2, i3, i4⟩, ⟨f0, f1⟩, ⟨u0, u1⟩⟩ := HC.out _ hC
  obtain ⟨x0, x1, x2, x3, x4⟩ := (HX.out _ hC).got
  have hBn := HW.out _ hC
  have hcs := @cell_set
  go_wp2_with fail
  refine bodyPost_ret (v := .tuple #[.agg #[.slice none 0 0, .slice none 0 0], .int .i64 (2)]) ?_ rfl ⟨?_, ?_⟩
  · simp [results, Tryz.results8, go_sem, x0, x1, x2, hcs]
  · rw [HR.out]; exact DRes.nil _ _
  · repeat' (first | with_reducible exact hBn | with_reducible refine Below.setCell ?_ ?_ _ | with_reducible refine Below.alloc ?_ ?_ _)
    all_goals first | (simp; done) | (simp; omega)
set_option maxHeartbeats 16000000 in
set_option maxRecDepth 100000 in
theorem dat_C (A : Option Addr) (cap : Nat) (l : List Po) (cs : List Pc) (FA : Option Addr) (fcp : Nat) (p : List Fw) (i : Ins) (IA : Option Addr) (IC : Nat) (fa fc ta tc q pr : Int) (w : World) (hl : l.length ≤ 800000) (hcl : ∀ g ∈ cs, g.L.length ≤ 400000) (h6 : ∀ g ∈ cs, ∀ y ∈ g.L, In64 y.qty) (hpn : p.length ≤ 40000) (hpi : ∀ x ∈ p, Fw.in_ x) (hu : In64 fa ∧ In64 fc ∧ In64 ta ∧ In64 tc) (hq : In64 q) (hpr : In64 pr) (hd : Dk w A l cs FA p) (hi : InsAt w i IA IC) (h1 : isH cs = true) (h2 : isF p = true) (h3 : dchk i q pr = true) (h4 : fa = ta ∧ fc = tc) :
    Calls Tryz.prog 8 #[.agg #[.slice A l.length cap, .slice FA p.length fcp], insV i IA IC, .agg #[.int .i64 fa, .int .i64 fc], .agg #[.int .i64 ta, .int .i64 tc], .int .i64 q, .int .i64 pr] w fun e w' => DRes w' e (dealR cs p i fa fc ta tc q pr).1 (dealR cs p i fa fc ta tc q pr).2.1 (dealR cs p i fa fc ta tc q pr).2.2 ∧ Below w.heap.size w w' := by
  have H4 := Lib.hid h4
  clear h4
  have hB0 := since_alloc (since_alloc (since_alloc (since_alloc (since_alloc (Below.refl _ w) (.cells #[.slice A l.length cap, .slice FA p.length fcp] 30)) (.cells #[.int .i64 i.id, .int .i64 i.mult, .int .i64 i.price, .int .i64 i.nxt, .slice IA i.mv.length IC] 26)) (.cells #[.int .i64 fa, .int .i64 fc] 28)) (.cells #[.int .i64 ta, .int .i64 tc] 28)) (.cells #[.slice none 0 0, .slice none 0 0] 30)
  have K0 := (((((Bk.new w #[.slice A l.length cap, .slice FA p.length fcp] 30).alloc (.cells #[.int .i64 i.id, .int .i64 i.mult, .int .i64 i.price, .int .i64 i.nxt, .slice IA i.mv.length IC] 26)).alloc (.cells #[.int .i64 fa, .int .i64 fc] 28)).alloc (.cells #[.int .i64 ta, .int .i64 tc] 28)).alloc (.cells #[.slice none 0 0, .slice none 0 0] 30))
  have K1 := ((((Bk.new (w.alloc (.cells #[.slice A l.length cap, .slice FA p.length fcp] 30)) #[.int .i64 i.id, .int .i64 i.mult, .int .i64 i.price, .int .i64 i.nxt, .slice IA i.mv.length IC] 26).alloc (.cells #[.int .i64 fa, .int .i64 fc] 28)).alloc (.cells #[.int .i64 ta, .int .i64 tc] 28)).alloc (.cells #[.slice none 0 0, .slice none 0 0] 30))
  rw [World.size_alloc] at K1
  have K2 := (((Bk.new ((w.alloc (.cells #[.slice A l.length cap, .slice FA p.length fcp] 30)).alloc (.cells #[.int .i64 i.id, .int .i64 i.mult, .int .i64 i.price, .int .i64 i.nxt, .slice IA i.mv.length IC] 26)) #[.int .i64 fa, .int .i64 fc] 28).alloc (.cells #[.int .i64 ta, .int .i64 tc] 28)).alloc (.cells #[.slice none 0 0, .slice none 0 0] 30))
  rw [World.size_alloc, World.size_alloc] at K2
  have K3 := ((Bk.new (((w.alloc (.cells #[.slice A l.length cap, .slice FA p.length fcp] 30)).alloc (.cells #[.int .i64 i.id, .int .i64 i.mult, .int .i64 i.price, .int .i64 i.nxt, .slice IA i.mv.length IC] 26)).alloc (.cells #[.int .i64 fa, .int .i64 fc] 28)) #[.int .i64 ta, .int .i64 tc] 28).alloc (.cells #[.slice none 0 0, .slice none 0 0] 30))
  rw [World.size_alloc, World.size_alloc, World.size_alloc] at K3
  have X := DB.new ((((w.alloc (.cells #[.slice A l.length cap, .slice FA p.length fcp] 30)).alloc (.cells #[.int .i64 i.id, .int .i64 i.mult, .int .i64 i.price, .int .i64 i.nxt, .slice IA i.mv.length IC] 26)).alloc (.cells #[.int .i64 fa, .int .i64 fc] 28)).alloc (.cells #[.int .i64 ta, .int .i64 tc] 28)) 30
  rw [World.size_alloc, World.size_alloc, World.size_alloc, World.size_alloc] at X
  have hBW : Hid (∀ V, Below w.heap.size w V → Dk V A l cs FA p) := Lib.hid fun V h => hd.below h
  have hIW : Hid (∀ V, Below w.heap.size w V → InsAt V i IA IC) := Lib.hid fun V h => hi.below h
  unfold insV
  have hi6 := hi.n64
  clear hd hi
  go_enter Tryz.func8, Tryz.ntmps8
  go_upto_region 1 with fail
  generalize hWW : (((((w.alloc (.cells #[.slice A l.length cap, .slice FA p.length fcp] 30)).alloc (.cells #[.int .i64 i.id, .int .i64 i.mult, .int .i64 i.price, .int .i64 i.nxt, .slice IA i.mv.length IC] 26)).alloc (.cells #[.int .i64 fa, .int .i64 fc] 28)).alloc (.cells #[.int .i64 ta, .int .i64 tc] 28)).alloc (.cells #[.slice none 0 0, .slice none 0 0] 30)) = W at *
  clear hWW
  have HC : Hid (∀ V, Below W.heap.size W V → (V.cell? ⟨w.heap.size, 0, none⟩ = some (.slice A l.length cap) ∧ V.cell? ⟨w.heap.size, 1, none⟩ = some (.slice FA p.length fcp)) ∧ (V.cell? ⟨w.heap.size + 1, 0, none⟩ = some (.int .i64 i.id) ∧ V.cell? ⟨w.heap.size + 1, 1, none⟩ = some (.int .i64 i.mult) ∧ V.cell? ⟨w.heap.size + 1, 2, none⟩ = some (.int .i64 i.price) ∧ V.cell? ⟨w.heap.size + 1, 3, none⟩ = some (.int .i64 i.nxt) ∧ V.cell? ⟨w.heap.size + 1, 4, none⟩ = some (.slice IA i.mv.length IC)) ∧ (V.cell? ⟨w.heap.size + 1 + 1, 0, none⟩ = some (.int .i64 fa) ∧ V.cell? ⟨w.heap.size + 1 + 1, 1, none⟩ = some (.int .i64 fc)) ∧ (V.cell? ⟨w.heap.size + 1 + 1 + 1, 0, none⟩ = some (.int .i64 ta) ∧ V.cell? ⟨w.heap.size + 1 + 1 + 1, 1, none⟩ = some (.int .i64 tc))) := Lib.hid fun V h => ⟨⟨(K0.below h).2 0, (K0.below h).2 1⟩, ⟨(K1.below h).2 0, (K1.below h).2 1, (K1.below h).2 2, (K1.below h).2 3, (K1.below h).2 4⟩, ⟨(K2.below h).2 0, (K2.below h).2 1⟩, ⟨(K3.below h).2 0, (K3.below h).2 1⟩⟩
  have HX : Hid (∀ V, Below W.heap.size W V → DB V (w.heap.size + 1 + 1 + 1 + 1)) := Lib.hid fun V h => X.below h
  have HW : Hid (∀ V, Below W.heap.size W V → Below w.heap.size w V) := Lib.hid fun V h => hB0.trans (h.mono hB0.size)
  have hC := Below.refl W.heap.size W
  clear K0 K1 K2 K3 X hB0
  have HIS := fun V (h : Below w.heap.size w V) => dis_any A cap l cs FA fcp p V (by omega) (fun g hg => Nat.le_trans (hcl g hg) (by omega)) (by omega) (hBW.out V h)
  rw [h1, h2, Bool.and_self] at HIS
  have HIS := Lib.hid HIS
  have hCK := fun V (h : Below w.heap.size w V) => dcheck_any i IA IC q pr V (hIW.out V h)
  rw [if_pos h3] at hCK
  unfold insV at hCK
  have HCK := Lib.hid hCK
  clear hCK
  have HR := Lib.hid (dealR_same h1 h2 h3 H4.out)
  have b1 : (fa == ta) = true := by simpa using H4.out.1
  have b2 : (fc == tc) = true := by simpa using H4.out.2
  clear h1 h2 h3 H4
  obtain ⟨⟨d0, d1⟩, ⟨i0, i1, i2, i3, i4⟩, ⟨f0, f1⟩, ⟨u0, u1⟩⟩ := HC.out _ hC
  go_wp2_with fail
  refine (HIS.out _ (HW.out _ hC)).mono ?_
  rintro e z1 ⟨rfl, hb⟩
  have hC := since_step hC hb
  clear hb
  clear d0 d1 i0 i1 i2 i3 i4 f0 f1 u0 u1
  obtain ⟨⟨d0, d1⟩, ⟨i0, i1, i2, i3, i4⟩, ⟨f0, f1⟩, ⟨u0, u1⟩⟩ := HC.out _ hC
  go_wp2_with fail
  refine (HCK.out _ (HW.out _ hC)).mono ?_
  rintro e z2 ⟨rfl, hb⟩
  have hC := since_step hC hb
  clear hb
  clear d0 d1 i0 i1 i2 i3 i4 f0 f1 u0 u1
  obtain ⟨⟨d0, d1⟩, ⟨i0, i1, i2, i3, i4⟩, ⟨f0, f1⟩, ⟨u0, u1⟩⟩ := HC.out _ hC
  obtain ⟨x0, x1, x2, x3, x4⟩ := (HX.out _ hC).got
  have hBn := HW.out _ hC
  have hcs := @cell_set
  go_wp2_with fail
  refine bodyPost_ret (v := .tuple #[.agg #[.slice none 0 0, .slice none 0 0], .int .i64 (24)]) ?_ rfl ⟨?_, ?_⟩
  · simp [results, Tryz.results8, go_sem, x0, x1, x2, hcs]
  · rw [HR.out]; exact DRes.nil _ _
  · repeat' (first | with_reducible exact hBn | with_reducible refine Below.setCell ?_ ?_ _ | with_reducible refine Below.alloc ?_ ?_ _)
    all_goals first | (simp; done) | (simp; omega)
set_option maxHeartbeats 16000000 in
set_option maxRecDepth 100000 in
theorem dat_D0 (A : Option Addr) (cap : Nat) (l : List Po) (cs : List Pc) (FA : Option Addr) (fcp : Nat) (p : List Fw) (i : Ins) (IA : Option Addr) (IC : Nat) (fa fc ta tc q pr : Int) (w : World) (hl : l.length ≤ 800000) (hcl : ∀ g ∈ cs, g.L.length ≤ 400000) (h6 : ∀ g ∈ cs, ∀ y ∈ g.L, In64 y.qty) (hpn : p.length ≤ 40000) (hpi : ∀ x ∈ p, Fw.in_ x) (hu : In64 fa ∧ In64 fc ∧ In64 ta ∧ In64 tc) (hq : In64 q) (hpr : In64 pr) (hd : Dk w A l cs FA p) (hi : InsAt w i IA IC) (h1 : isH cs = true) (h2 : isF p = true) (h3 : dchk i q pr = true) (h4 : ¬ (fa = ta ∧ fc = tc))  (h5 : ¬ In64 (gainZ i q pr i.price)) :
    Calls Tryz.prog 8 #[.agg #[.slice A l.length cap, .slice FA p.length fcp], insV i IA IC, .agg #[.int .i64 fa, .int .i64 fc], .agg #[.int .i64 ta, .int .i64 tc], .int .i64 q, .int .i64 pr] w fun e w' => DRes w' e (dealR cs p i fa fc ta tc q pr).1 (dealR cs p i fa fc ta tc q pr).2.1 (dealR cs p i fa fc ta tc q pr).2.2 ∧ Below w.heap.size w w' := by
  have hB0 := since_alloc (since_alloc (since_alloc (since_alloc (since_alloc (Below.refl _ w) (.cells #[.slice A l.length cap, .slice FA p.length fcp] 30)) (.cells #[.int .i64 i.id, .int .i64 i.mult, .int .i64 i.price, .int .i64 i.nxt, .slice IA i.mv.length IC] 26)) (.cells #[.int .i64 fa, .int .i64 fc] 28)) (.cells #[.int .i64 ta, .int .i64 tc] 28)) (.cells #[.slice none 0 0, .slice none 0 0] 30)
  have K0 := (((((Bk.new w #[.slice A l.length cap, .slice FA p.length fcp] 30).alloc (.cells #[.int .i64 i.id, .int .i64 i.mult, .int .i64 i.price, .int .i64 i.nxt, .slice IA i.mv.length IC] 26)).alloc (.cells #[.int .i64 fa, .int .i64 fc] 28)).alloc (.cells #[.int .i64 ta, .int .i64 tc] 28)).alloc (.cells #[.slice none 0 0, .slice none 0 0] 30))
  have K1 := ((((Bk.new (w.alloc (.cells #[.slice A l.length cap, .slice FA p.length fcp] 30)) #[.int .i64 i.id, .int .i64 i.mult, .int .i64 i.price, .int .i64 i.nxt, .slice IA i.mv.length IC] 26).alloc (.cells #[.int .i64 fa, .int .i64 fc] 28)).alloc (.cells #[.int .i64 ta, .int .i64 tc] 28)).alloc (.cells #[.slice none 0 0, .slice none 0 0] 30))
  rw [World.size_alloc] at K1
  have K2 := (((Bk.new ((w.alloc (.cells #[.slice A l.length cap, .slice FA p.length fcp] 30)).alloc (.cells #[.int .i64 i.id, .int .i64 i.mult, .int .i64 i.price, .int .i64 i.nxt, .slice IA i.mv.length IC] 26)) #[.int .i64 fa, .int .i64 fc] 28).alloc (.cells #[.int .i64 ta, .int .i64 tc] 28)).alloc (.cells #[.slice none 0 0, .slice none 0 0] 30))
  rw [World.size_alloc, World.size_alloc] at K2
  have K3 := ((Bk.new (((w.alloc (.cells #[.slice A l.length cap, .slice FA p.length fcp] 30)).alloc (.cells #[.int .i64 i.id, .int .i64 i.mult, .int .i64 i.price, .int .i64 i.nxt, .slice IA i.mv.length IC] 26)).alloc (.cells #[.int .i64 fa, .int .i64 fc] 28)) #[.int .i64 ta, .int .i64 tc] 28).alloc (.cells #[.slice none 0 0, .slice none 0 0] 30))
  rw [World.size_alloc, World.size_alloc, World.size_alloc] at K3
  have X := DB.new ((((w.alloc (.cells #[.slice A l.length cap, .slice FA p.length fcp] 30)).alloc (.cells #[.int .i64 i.id, .int .i64 i.mult, .int .i64 i.price, .int .i64 i.nxt, .slice IA i.mv.length IC] 26)).alloc (.cells #[.int .i64 fa, .int .i64 fc] 28)).alloc (.cells #[.int .i64 ta, .int .i64 tc] 28)) 30
  rw [World.size_alloc, World.size_alloc, World.size_alloc, World.size_alloc] at X
  have hBW : Hid (∀ V, Below w.heap.size w V → Dk V A l cs FA p) := Lib.hid fun V h => hd.below h
  have hIW : Hid (∀ V, Below w.heap.size w V → InsAt V i IA IC) := Lib.hid fun V h => hi.below h
  unfold insV
  have hi6 := hi.n64
  clear hd hi
  go_enter Tryz.func8, Tryz.ntmps8
  go_upto_region 1 with fail
  generalize hWW : (((((w.alloc (.cells #[.slice A l.length cap, .slice FA p.length fcp] 30)).alloc (.cells #[.int .i64 i.id, .int .i64 i.mult, .int .i64 i.price, .int .i64 i.nxt, .slice IA i.mv.length IC] 26)).alloc (.cells #[.int .i64 fa, .int .i64 fc] 28)).alloc (.cells #[.int .i64 ta, .int .i64 tc] 28)).alloc (.cells #[.slice none 0 0, .slice none 0 0] 30)) = W at *
  clear hWW
  have HC : Hid (∀ V, Below W.heap.size W V → (V.cell? ⟨w.heap.size, 0, none⟩ = some (.slice A l.length cap) ∧ V.cell? ⟨w.heap.size, 1, none⟩ = some (.slice FA p.length fcp)) ∧ (V.cell? ⟨w.heap.size + 1, 0, none⟩ = some (.int .i64 i.id) ∧ V.cell? ⟨w.heap.size + 1, 1, none⟩ = some (.int .i64 i.mult) ∧ V.cell? ⟨w.heap.size + 1, 2, none⟩ = some (.int .i64 i.price) ∧ V.cell? ⟨w.heap.size + 1, 3, none⟩ = some (.int .i64 i.nxt) ∧ V.cell? ⟨w.heap.size + 1, 4, none⟩ = some (.slice IA i.mv.length IC)) ∧ (V.cell? ⟨w.heap.size + 1 + 1, 0, none⟩ = some (.int .i64 fa) ∧ V.cell? ⟨w.heap.size + 1 + 1, 1, none⟩ = some (.int .i64 fc)) ∧ (V.cell? ⟨w.heap.size + 1 + 1 + 1, 0, none⟩ = some (.int .i64 ta) ∧ V.cell? ⟨w.heap.size + 1 + 1 + 1, 1, none⟩ = some (.int .i64 tc))) := Lib.hid fun V h => ⟨⟨(K0.below h).2 0, (K0.below h).2 1⟩, ⟨(K1.below h).2 0, (K1.below h).2 1, (K1.below h).2 2, (K1.below h).2 3, (K1.below h).2 4⟩, ⟨(K2.below h).2 0, (K2.below h).2 1⟩, ⟨(K3.below h).2 0, (K3.below h).2 1⟩⟩
  have HX : Hid (∀ V, Below W.heap.size W V → DB V (w.heap.size + 1 + 1 + 1 + 1)) := Lib.hid fun V h => X.below h
  have HW : Hid (∀ V, Below W.heap.size W V → Below w.heap.size w V) := Lib.hid fun V h => hB0.trans (h.mono hB0.size)
  have hC := Below.refl W.heap.size W
  clear K0 K1 K2 K3 X hB0
  have HIS := fun V (h : Below w.heap.size w V) => dis_any A cap l cs FA fcp p V (by omega) (fun g hg => Nat.le_trans (hcl g hg) (by omega)) (by omega) (hBW.out V h)
  rw [h1, h2, Bool.and_self] at HIS
  have HIS := Lib.hid HIS
  have hCK := fun V (h : Below w.heap.size w V) => dcheck_any i IA IC q pr V (hIW.out V h)
  rw [if_pos h3] at hCK
  unfold insV at hCK
  have HCK := Lib.hid hCK
  clear hCK
  have hok := (dchk_iff i q pr).1 h3
  have hpp := ok_pr hok.1
  have hGV : gainV i q pr i.price = fV (gainZ i q pr i.price) := if_pos ⟨hok.1, hok.2.1, hpp.1⟩
  have hGE : gainE i q pr i.price = fE (gainZ i q pr i.price) := if_pos ⟨hok.1, hok.2.1, hpp.1⟩
  have hGN := fun V (h : Below w.heap.size w V) => gain_any i IA IC q pr i.price V (hIW.out V h) hq hpr hi6.2.2.1
  rw [hGV, hGE] at hGN
  unfold insV at hGN
  clear hGV hGE hok hpp
  rw [(fV_no h5).1, (fV_no h5).2] at hGN
  have HGN := Lib.hid hGN
  clear hGN
  have HR := Lib.hid (dealR_far h1 h2 h3 h4 h5)
  have H4 := Lib.hid h4
  clear h1 h2 h3 h4 h5
  obtain ⟨⟨d0, d1⟩, ⟨i0, i1, i2, i3, i4⟩, ⟨f0, f1⟩, ⟨u0, u1⟩⟩ := HC.out _ hC
  go_wp2_with fail
  refine (HIS.out _ (HW.out _ hC)).mono ?_
  rintro e z1 ⟨rfl, hb⟩
  have hC := since_step hC hb
  clear hb
  clear d0 d1 i0 i1 i2 i3 i4 f0 f1 u0 u1
  obtain ⟨⟨d0, d1⟩, ⟨i0, i1, i2, i3, i4⟩, ⟨f0, f1⟩, ⟨u0, u1⟩⟩ := HC.out _ hC
  go_wp2_with fail
  refine (HCK.out _ (HW.out _ hC)).mono ?_
  rintro e z2 ⟨rfl, hb⟩
  have hC := since_step hC hb
  clear hb
  clear d0 d1 i0 i1 i2 i3 i4 f0 f1 u0 u1
  go_upto_region 6 with fail
  go_cut [33] (fun s33 wx => s33 = .bool false ∧ Below z2.heap.size z2 wx)
  case first =>
    obtain ⟨⟨d0, d1⟩, ⟨i0, i1, i2, i3, i4⟩, ⟨f0, f1⟩, ⟨u0, u1⟩⟩ := HC.out _ hC
    by_cases e0 : fa = ta
    · have b1 : (fa == ta) = true := by simpa using e0
      have b2 : (fc == tc) = false := by simpa using fun h => H4.out ⟨e0, h⟩
      clear e0
      go_wp2_with fail
      go_meet
      case rel => exact ⟨rfl, Below.refl _ _⟩
    · have b1 : (fa == ta) = false := by simpa using e0
      clear e0
      go_wp2_with fail
      go_meet
      case rel => exact ⟨rfl, Below.refl _ _⟩
  case rest =>
    obtain ⟨rfl, hbx⟩ := hcut
    have hC := since_step hC hbx
    clear hbx
    obtain ⟨⟨d0, d1⟩, ⟨i0, i1, i2, i3, i4⟩, ⟨f0, f1⟩, ⟨u0, u1⟩⟩ := HC.out _ hC
    go_wp2_with fail
    refine (HGN.out _ (HW.out _ hC)).mono ?_
    rintro e z3 ⟨rfl, hb⟩
    have hC := since_step hC hb
    clear hb
    clear d0 d1 i0 i1 i2 i3 i4 f0 f1 u0 u1
    obtain ⟨⟨d0, d1⟩, ⟨i0, i1, i2, i3, i4⟩, ⟨f0, f1⟩, ⟨u0, u1⟩⟩ := HC.out _ hC
    obtain ⟨x0, x1, x2, x3, x4⟩ := (HX.out _ hC).got
    have hBn := HW.out _ hC
    have hcs := @cell_set
    go_wp2_with fail
    refine bodyPost_ret (v := .tuple #[.agg #[.slice none 0 0, .slice none 0 0], .int .i64 (7)]) ?_ rfl ⟨?_, ?_⟩
    · simp [results, Tryz.results8, go_sem, x0, x1, x2, hcs]
    · rw [HR.out]; exact DRes.nil _ _
    · repeat' (first | with_reducible exact hBn | with_reducible refine Below.setCell ?_ ?_ _ | with_reducible refine Below.alloc ?_ ?_ _)
      all_goals first | (simp; done) | (simp; omega)
set_option maxHeartbeats 16000000 in
set_option maxRecDepth 100000 in
theorem dat_E0 (A : Option Addr) (cap : Nat) (l : List Po) (cs : List Pc) (FA : Option Addr) (fcp : Nat) (p : List Fw) (i : Ins) (IA : Option Addr) (IC : Nat) (fa fc ta tc q pr : Int) (w : World) (hl : l.length ≤ 800000) (hcl : ∀ g ∈ cs, g.L.length ≤ 400000) (h6 : ∀ g ∈ cs, ∀ y ∈ g.L, In64 y.qty) (hpn : p.length ≤ 40000) (hpi : ∀ x ∈ p, Fw.in_ x) (hu : In64 fa ∧ In64 fc ∧ In64 ta ∧ In64 tc) (hq : In64 q) (hpr : In64 pr) (hd : Dk w A l cs FA p) (hi : InsAt w i IA IC) (n : Int) (B : List Pc) (h1 : isH cs = true) (h2 : isF p = true) (h3 : dchk i q pr = true) (h4 : ¬ (fa = ta ∧ fc = tc))  (h5 : In64 (gainZ i q pr i.price)) (h6m : moveP cs fa fc ta tc [⟨i.id, q⟩] = (n, B)) (hn : n ≠ 0) :
    Calls Tryz.prog 8 #[.agg #[.slice A l.length cap, .slice FA p.length fcp], insV i IA IC, .agg #[.int .i64 fa, .int .i64 fc], .agg #[.int .i64 ta, .int .i64 tc], .int .i64 q, .int .i64 pr] w fun e w' => DRes w' e (dealR cs p i fa fc ta tc q pr).1 (dealR cs p i fa fc ta tc q pr).2.1 (dealR cs p i fa fc ta tc q pr).2.2 ∧ Below w.heap.size w w' := by
  have hB0 := since_alloc (since_alloc (since_alloc (since_alloc (since_alloc (Below.refl _ w) (.cells #[.slice A l.length cap, .slice FA p.length fcp] 30)) (.cells #[.int .i64 i.id, .int .i64 i.mult, .int .i64 i.price, .int .i64 i.nxt, .slice IA i.mv.length IC] 26)) (.cells #[.int .i64 fa, .int .i64 fc] 28)) (.cells #[.int .i64 ta, .int .i64 tc] 28)) (.cells #[.slice none 0 0, .slice none 0 0] 30)
  have K0 := (((((Bk.new w #[.slice A l.length cap, .slice FA p.length fcp] 30).alloc (.cells #[.int .i64 i.id, .int .i64 i.mult, .int .i64 i.price, .int .i64 i.nxt, .slice IA i.mv.length IC] 26)).alloc (.cells #[.int .i64 fa, .int .i64 fc] 28)).alloc (.cells #[.int .i64 ta, .int .i64 tc] 28)).alloc (.cells #[.slice none 0 0, .slice none 0 0] 30))
  have K1 := ((((Bk.new (w.alloc (.cells #[.slice A l.length cap, .slice FA p.length fcp] 30)) #[.int .i64 i.id, .int .i64 i.mult, .int .i64 i.price, .int .i64 i.nxt, .slice IA i.mv.length IC] 26).alloc (.cells #[.int .i64 fa, .int .i64 fc] 28)).alloc (.cells #[.int .i64 ta, .int .i64 tc] 28)).alloc (.cells #[.slice none 0 0, .slice none 0 0] 30))
  rw [World.size_alloc] at K1
  have K2 := (((Bk.new ((w.alloc (.cells #[.slice A l.length cap, .slice FA p.length fcp] 30)).alloc (.cells #[.int .i64 i.id, .int .i64 i.mult, .int .i64 i.price, .int .i64 i.nxt, .slice IA i.mv.length IC] 26)) #[.int .i64 fa, .int .i64 fc] 28).alloc (.cells #[.int .i64 ta, .int .i64 tc] 28)).alloc (.cells #[.slice none 0 0, .slice none 0 0] 30))
  rw [World.size_alloc, World.size_alloc] at K2
  have K3 := ((Bk.new (((w.alloc (.cells #[.slice A l.length cap, .slice FA p.length fcp] 30)).alloc (.cells #[.int .i64 i.id, .int .i64 i.mult, .int .i64 i.price, .int .i64 i.nxt, .slice IA i.mv.length IC] 26)).alloc (.cells #[.int .i64 fa, .int .i64 fc] 28)) #[.int .i64 ta, .int .i64 tc] 28).alloc (.cells #[.slice none 0 0, .slice none 0 0] 30))
  rw [World.size_alloc, World.size_alloc, World.size_alloc] at K3
  have X := DB.new ((((w.alloc (.cells #[.slice A l.length cap, .slice FA p.length fcp] 30)).alloc (.cells #[.int .i64 i.id, .int .i64 i.mult, .int .i64 i.price, .int .i64 i.nxt, .slice IA i.mv.length IC] 26)).alloc (.cells #[.int .i64 fa, .int .i64 fc] 28)).alloc (.cells #[.int .i64 ta, .int .i64 tc] 28)) 30
  rw [World.size_alloc, World.size_alloc, World.size_alloc, World.size_alloc] at X
  have hBW : Hid (∀ V, Below w.heap.size w V → Dk V A l cs FA p) := Lib.hid fun V h => hd.below h
  have hIW : Hid (∀ V, Below w.heap.size w V → InsAt V i IA IC) := Lib.hid fun V h => hi.below h
  unfold insV
  have hi6 := hi.n64
  clear hd hi
  go_enter Tryz.func8, Tryz.ntmps8
  go_upto_region 1 with fail
  generalize hWW : (((((w.alloc (.cells #[.slice A l.length cap, .slice FA p.length fcp] 30)).alloc (.cells #[.int .i64 i.id, .int .i64 i.mult, .int .i64 i.price, .int .i64 i.nxt, .slice IA i.mv.length IC] 26)).alloc (.cells #[.int .i64 fa, .int .i64 fc] 28)).alloc (.cells #[.int .i64 ta, .int .i64 tc] 28)).alloc (.cells #[.slice none 0 0, .slice none 0 0] 30)) = W at *
  clear hWW
  have HC : Hid (∀ V, Below W.heap.size W V → (V.cell? ⟨w.heap.size, 0, none⟩ = some (.slice A l.length cap) ∧ V.cell? ⟨w.heap.size, 1, none⟩ = some (.slice FA p.length fcp)) ∧ (V.cell? ⟨w.heap.size + 1, 0, none⟩ = some (.int .i64 i.id) ∧ V.cell? ⟨w.heap.size + 1, 1, none⟩ = some (.int .i64 i.mult) ∧ V.cell? ⟨w.heap.size + 1, 2, none⟩ = some (.int .i64 i.price) ∧ V.cell? ⟨w.heap.size + 1, 3, none⟩ = some (.int .i64 i.nxt) ∧ V.cell? ⟨w.heap.size + 1, 4, none⟩ = some (.slice IA i.mv.length IC)) ∧ (V.cell? ⟨w.heap.size + 1 + 1, 0, none⟩ = some (.int .i64 fa) ∧ V.cell? ⟨w.heap.size + 1 + 1, 1, none⟩ = some (.int .i64 fc)) ∧ (V.cell? ⟨w.heap.size + 1 + 1 + 1, 0, none⟩ = some (.int .i64 ta) ∧ V.cell? ⟨w.heap.size + 1 + 1 + 1, 1, none⟩ = some (.int .i64 tc))) := Lib.hid fun V h => ⟨⟨(K0.below h).2 0, (K0.below h).2 1⟩, ⟨(K1.below h).2 0, (K1.below h).2 1, (K1.below h).2 2, (K1.below h).2 3, (K1.below h).2 4⟩, ⟨(K2.below h).2 0, (K2.below h).2 1⟩, ⟨(K3.below h).2 0, (K3.below h).2 1⟩⟩
  have HX : Hid (∀ V, Below W.heap.size W V → DB V (w.heap.size + 1 + 1 + 1 + 1)) := Lib.hid fun V h => X.below h
  have HW : Hid (∀ V, Below W.heap.size W V → Below w.heap.size w V) := Lib.hid fun V h => hB0.trans (h.mono hB0.size)
  have hC := Below.refl W.heap.size W
  clear K0 K1 K2 K3 X hB0
  have HIS := fun V (h : Below w.heap.size w V) => dis_any A cap l cs FA fcp p V (by omega) (fun g hg => Nat.le_trans (hcl g hg) (by omega)) (by omega) (hBW.out V h)
  rw [h1, h2, Bool.and_self] at HIS
  have HIS := Lib.hid HIS
  have hCK := fun V (h : Below w.heap.size w V) => dcheck_any i IA IC q pr V (hIW.out V h)
  rw [if_pos h3] at hCK
  unfold insV at hCK
  have HCK := Lib.hid hCK
  clear hCK
  have hok := (dchk_iff i q pr).1 h3
  have hpp := ok_pr hok.1
  have hGV : gainV i q pr i.price = fV (gainZ i q pr i.price) := if_pos ⟨hok.1, hok.2.1, hpp.1⟩
  have hGE : gainE i q pr i.price = fE (gainZ i q pr i.price) := if_pos ⟨hok.1, hok.2.1, hpp.1⟩
  have hGN := fun V (h : Below w.heap.size w V) => gain_any i IA IC q pr i.price V (hIW.out V h) hq hpr hi6.2.2.1
  rw [hGV, hGE] at hGN
  unfold insV at hGN
  clear hGV hGE hok hpp
  rw [(fV_is h5).1, (fV_is h5).2] at hGN
  have HGN := Lib.hid hGN
  clear hGN
  have hMV := fun LA V (h : Below w.heap.size w V) hM => bmove_any A cap l cs fa fc ta tc LA 1 [⟨i.id, q⟩] V hl hcl h6 (by simp) (by intro y hy; rw [List.mem_singleton.1 hy]; exact hq) (hBW.out V h).s (hBW.out V h).t hM
  rw [h6m] at hMV
  unfold HRes at hMV
  simp only at hMV
  have HMV := Lib.hid hMV
  clear hMV
  have HR := Lib.hid (dealR_pos h1 h2 h3 h4 h5 h6m hn)
  have bn : (n != 0) = true := by simpa using hn
  have H4 := Lib.hid h4
  clear h1 h2 h3 h4 h5 h6m hn
  generalize gainZ i q pr i.price = gz at *
  obtain ⟨⟨d0, d1⟩, ⟨i0, i1, i2, i3, i4⟩, ⟨f0, f1⟩, ⟨u0, u1⟩⟩ := HC.out _ hC
  go_wp2_with fail
  refine (HIS.out _ (HW.out _ hC)).mono ?_
  rintro e z1 ⟨rfl, hb⟩
  have hC := since_step hC hb
  clear hb
  clear d0 d1 i0 i1 i2 i3 i4 f0 f1 u0 u1
  obtain ⟨⟨d0, d1⟩, ⟨i0, i1, i2, i3, i4⟩, ⟨f0, f1⟩, ⟨u0, u1⟩⟩ := HC.out _ hC
  go_wp2_with fail
  refine (HCK.out _ (HW.out _ hC)).mono ?_
  rintro e z2 ⟨rfl, hb⟩
  have hC := since_step hC hb
  clear hb
  clear d0 d1 i0 i1 i2 i3 i4 f0 f1 u0 u1
  go_upto_region 6 with fail
  go_cut [33] (fun s33 wx => s33 = .bool false ∧ Below z2.heap.size z2 wx)
  case first =>
    obtain ⟨⟨d0, d1⟩, ⟨i0, i1, i2, i3, i4⟩, ⟨f0, f1⟩, ⟨u0, u1⟩⟩ := HC.out _ hC
    by_cases e0 : fa = ta
    · have b1 : (fa == ta) = true := by simpa using e0
      have b2 : (fc == tc) = false := by simpa using fun h => H4.out ⟨e0, h⟩
      clear e0
      go_wp2_with fail
      go_meet
      case rel => exact ⟨rfl, Below.refl _ _⟩
    · have b1 : (fa == ta) = false := by simpa using e0
      clear e0
      go_wp2_with fail
      go_meet
      case rel => exact ⟨rfl, Below.refl _ _⟩
  case rest =>
    obtain ⟨rfl, hbx⟩ := hcut
    have hC := since_step hC hbx
    clear hbx
    obtain ⟨⟨d0, d1⟩, ⟨i0, i1, i2, i3, i4⟩, ⟨f0, f1⟩, ⟨u0, u1⟩⟩ := HC.out _ hC
    go_wp2_with fail
    refine (HGN.out _ (HW.out _ hC)).mono ?_
    rintro e z3 ⟨rfl, hb⟩
    have hC := since_step hC hb
    clear hb
    clear d0 d1 i0 i1 i2 i3 i4 f0 f1 u0 u1
    obtain ⟨⟨d0, d1⟩, ⟨i0, i1, i2, i3, i4⟩, ⟨f0, f1⟩, ⟨u0, u1⟩⟩ := HC.out _ hC
    go_wp2_with fail
    refine (HMV.out _ _ (HW.out _ (since_alloc hC _)) (Sl.new_ z3 (rc Lg.cells [⟨i.id, q⟩]) 75)).mono ?_
    rintro e z4 ⟨⟨m5, A5, k5, rfl, s5, t5, _⟩, hb⟩
    have hbm := since_step (since_alloc (Below.refl _ z3) (.cells #[.int .i64 i.id, .int .i64 q] 75)) hb
    have hC := since_step hC hbm
    clear hbm
    clear hb
    clear d0 d1 i0 i1 i2 i3 i4 f0 f1 u0 u1
    clear s5 t5
    obtain ⟨⟨d0, d1⟩, ⟨i0, i1, i2, i3, i4⟩, ⟨f0, f1⟩, ⟨u0, u1⟩⟩ := HC.out _ hC
    obtain ⟨x0, x1, x2, x3, x4⟩ := (HX.out _ hC).got
    have hBn := HW.out _ hC
    have hcs := @cell_set
    go_wp2_with fail
    refine bodyPost_ret (v := .tuple #[.agg #[.slice none 0 0, .slice none 0 0], .int .i64 (n)]) ?_ rfl ⟨?_, ?_⟩
    · simp [results, Tryz.results8, go_sem, x0, x1, x2, hcs]
    · rw [HR.out]; exact DRes.nil _ _
    · repeat' (first | with_reducible exact hBn | with_reducible refine Below.setCell ?_ ?_ _ | with_reducible refine Below.alloc ?_ ?_ _)
      all_goals first | (simp; done) | (simp; omega)
set_option maxHeartbeats 16000000 in
set_option maxRecDepth 100000 in
theorem dat_F0 (A : Option Addr) (cap : Nat) (l : List Po) (cs : List Pc) (FA : Option Addr) (fcp : Nat) (p : List Fw) (i : Ins) (IA : Option Addr) (IC : Nat) (fa fc ta tc q pr : Int) (w : World) (hl : l.length ≤ 800000) (hcl : ∀ g ∈ cs, g.L.length ≤ 400000) (h6 : ∀ g ∈ cs, ∀ y ∈ g.L, In64 y.qty) (hpn : p.length ≤ 40000) (hpi : ∀ x ∈ p, Fw.in_ x) (hu : In64 fa ∧ In64 fc ∧ In64 ta ∧ In64 tc) (hq : In64 q) (hpr : In64 pr) (hd : Dk w A l cs FA p) (hi : InsAt w i IA IC) (n : Int) (B : List Pc) (P : List Fw) (h1 : isH cs = true) (h2 : isF p = true) (h3 : dchk i q pr = true) (h4 : ¬ (fa = ta ∧ fc = tc))  (h5 : In64 (gainZ i q pr i.price)) (h6m : moveP cs fa fc ta tc [⟨i.id, q⟩] = (0, B)) (h7 : moveR p fa fc ta tc (gainZ i q pr i.price) = (n, P)) (hn : n ≠ 0) :
    Calls Tryz.prog 8 #[.agg #[.slice A l.length cap, .slice FA p.length fcp], insV i IA IC, .agg #[.int .i64 fa, .int .i64 fc], .agg #[.int .i64 ta, .int .i64 tc], .int .i64 q, .int .i64 pr] w fun e w' => DRes w' e (dealR cs p i fa fc ta tc q pr).1 (dealR cs p i fa fc ta tc q pr).2.1 (dealR cs p i fa fc ta tc q pr).2.2 ∧ Below w.heap.size w w' := by
  have hB0 := since_alloc (since_alloc (since_alloc (since_alloc (since_alloc (Below.refl _ w) (.cells #[.slice A l.length cap, .slice FA p.length fcp] 30)) (.cells #[.int .i64 i.id, .int .i64 i.mult, .int .i64 i.price, .int .i64 i.nxt, .slice IA i.mv.length IC] 26)) (.cells #[.int .i64 fa, .int .i64 fc] 28)) (.cells #[.int .i64 ta, .int .i64 tc] 28)) (.cells #[.slice none 0 0, .slice none 0 0] 30)
  have K0 := (((((Bk.new w #[.slice A l.length cap, .slice FA p.length fcp] 30).alloc (.cells #[.int .i64 i.id, .int .i64 i.mult, .int .i64 i.price, .int .i64 i.nxt, .slice IA i.mv.length IC] 26)).alloc (.cells #[.int .i64 fa, .int .i64 fc] 28)).alloc (.cells #[.int .i64 ta, .int .i64 tc] 28)).alloc (.cells #[.slice none 0 0, .slice none 0 0] 30))
  have K1 := ((((Bk.new (w.alloc (.cells #[.slice A l.length cap, .slice FA p.length fcp] 30)) #[.int .i64 i.id, .int .i64 i.mult, .int .i64 i.price, .int .i64 i.nxt, .slice IA i.mv.length IC] 26).alloc (.cells #[.int .i64 fa, .int .i64 fc] 28)).alloc (.cells #[.int .i64 ta, .int .i64 tc] 28)).alloc (.cells #[.slice none 0 0, .slice none 0 0] 30))
  rw [World.size_alloc] at K1
  have K2 := (((Bk.new ((w.alloc (.cells #[.slice A l.length cap, .slice FA p.length fcp] 30)).alloc (.cells #[.int .i64 i.id, .int .i64 i.mult, .int .i64 i.price, .int .i64 i.nxt, .slice IA i.mv.length IC] 26)) #[.int .i64 fa, .int .i64 fc] 28).alloc (.cells #[.int .i64 ta, .int .i64 tc] 28)).alloc (.cells #[.slice none 0 0, .slice none 0 0] 30))
  rw [World.size_alloc, World.size_alloc] at K2
  have K3 := ((Bk.new (((w.alloc (.cells #[.slice A l.length cap, .slice FA p.length fcp] 30)).alloc (.cells #[.int .i64 i.id, .int .i64 i.mult, .int .i64 i.price, .int .i64 i.nxt, .slice IA i.mv.length IC] 26)).alloc (.cells #[.int .i64 fa, .int .i64 fc] 28)) #[.int .i64 ta, .int .i64 tc] 28).alloc (.cells #[.slice none 0 0, .slice none 0 0] 30))
  rw [World.size_alloc, World.size_alloc, World.size_alloc] at K3
  have X := DB.new ((((w.alloc (.cells #[.slice A l.length cap, .slice FA p.length fcp] 30)).alloc (.cells #[.int .i64 i.id, .int .i64 i.mult, .int .i64 i.price, .int .i64 i.nxt, .slice IA i.mv.length IC] 26)).alloc (.cells #[.int .i64 fa, .int .i64 fc] 28)).alloc (.cells #[.int .i64 ta, .int .i64 tc] 28)) 30
  rw [World.size_alloc, World.size_alloc, World.size_alloc, World.size_alloc] at X
  have hBW : Hid (∀ V, Below w.heap.size w V → Dk V A l cs FA p) := Lib.hid fun V h => hd.below h
  have hIW : Hid (∀ V, Below w.heap.size w V → InsAt V i IA IC) := Lib.hid fun V h => hi.below h
  unfold insV
  have hi6 := hi.n64
  clear hd hi
  go_enter Tryz.func8, Tryz.ntmps8
  go_upto_region 1 with fail
  generalize hWW : (((((w.alloc (.cells #[.slice A l.length cap, .slice FA p.length fcp] 30)).alloc (.cells #[.int .i64 i.id, .int .i64 i.mult, .int .i64 i.price, .int .i64 i.nxt, .slice IA i.mv.length IC] 26)).alloc (.cells #[.int .i64 fa, .int .i64 fc] 28)).alloc (.cells #[.int .i64 ta, .int .i64 tc] 28)).alloc (.cells #[.slice none 0 0, .slice none 0 0] 30)) = W at *
  clear hWW
  have HC : Hid (∀ V, Below W.heap.size W V → (V.cell? ⟨w.heap.size, 0, none⟩ = some (.slice A l.length cap) ∧ V.cell? ⟨w.heap.size, 1, none⟩ = some (.slice FA p.length fcp)) ∧ (V.cell? ⟨w.heap.size + 1, 0, none⟩ = some (.int .i64 i.id) ∧ V.cell? ⟨w.heap.size + 1, 1, none⟩ = some (.int .i64 i.mult) ∧ V.cell? ⟨w.heap.size + 1, 2, none⟩ = some (.int .i64 i.price) ∧ V.cell? ⟨w.heap.size + 1, 3, none⟩ = some (.int .i64 i.nxt) ∧ V.cell? ⟨w.heap.size + 1, 4, none⟩ = some (.slice IA i.mv.length IC)) ∧ (V.cell? ⟨w.heap.size + 1 + 1, 0, none⟩ = some (.int .i64 fa) ∧ V.cell? ⟨w.heap.size + 1 + 1, 1, none⟩ = some (.int .i64 fc)) ∧ (V.cell? ⟨w.heap.size + 1 + 1 + 1, 0, none⟩ = some (.int .i64 ta) ∧ V.cell? ⟨w.heap.size + 1 + 1 + 1, 1, none⟩ = some (.int .i64 tc))) := Lib.hid fun V h => ⟨⟨(K0.below h).2 0, (K0.below h).2 1⟩, ⟨(K1.below h).2 0, (K1.below h).2 1, (K1.below h).2 2, (K1.below h).2 3, (K1.below h).2 4⟩, ⟨(K2.below h).2 0, (K2.below h).2 1⟩, ⟨(K3.below h).2 0, (K3.below h).2 1⟩⟩
  have HX : Hid (∀ V, Below W.heap.size W V → DB V (w.heap.size + 1 + 1 + 1 + 1)) := Lib.hid fun V h => X.below h
  have HW : Hid (∀ V, Below W.heap.size W V → Below w.heap.size w V) := Lib.hid fun V h => hB0.trans (h.mono hB0.size)
  have hC := Below.refl W.heap.size W
  clear K0 K1 K2 K3 X hB0
  have HIS := fun V (h : Below w.heap.size w V) => dis_any A cap l cs FA fcp p V (by omega) (fun g hg => Nat.le_trans (hcl g hg) (by omega)) (by omega) (hBW.out V h)
  rw [h1, h2, Bool.and_self] at HIS
  have HIS := Lib.hid HIS
  have hCK := fun V (h : Below w.heap.size w V) => dcheck_any i IA IC q pr V (hIW.out V h)
  rw [if_pos h3] at hCK
  unfold insV at hCK
  have HCK := Lib.hid hCK
  clear hCK
  have hok := (dchk_iff i q pr).1 h3
  have hpp := ok_pr hok.1
  have hGV : gainV i q pr i.price = fV (gainZ i q pr i.price) := if_pos ⟨hok.1, hok.2.1, hpp.1⟩
  have hGE : gainE i q pr i.price = fE (gainZ i q pr i.price) := if_pos ⟨hok.1, hok.2.1, hpp.1⟩
  have hGN := fun V (h : Below w.heap.size w V) => gain_any i IA IC q pr i.price V (hIW.out V h) hq hpr hi6.2.2.1
  rw [hGV, hGE] at hGN
  unfold insV at hGN
  clear hGV hGE hok hpp
  rw [(fV_is h5).1, (fV_is h5).2] at hGN
  have HGN := Lib.hid hGN
  clear hGN
  have hMV := fun LA V (h : Below w.heap.size w V) hM => bmove_any A cap l cs fa fc ta tc LA 1 [⟨i.id, q⟩] V hl hcl h6 (by simp) (by intro y hy; rw [List.mem_singleton.1 hy]; exact hq) (hBW.out V h).s (hBW.out V h).t hM
  rw [h6m] at hMV
  unfold HRes at hMV
  simp only at hMV
  have HMV := Lib.hid hMV
  clear hMV
  have hPM := fun V (h : Below w.heap.size w V) => pmove_any FA fcp p fa fc ta tc (gainZ i q pr i.price) V hpn hpi ⟨hu.1, hu.2.1, hu.2.2.1, hu.2.2.2, h5⟩ (hBW.out V h).f
  rw [h7] at hPM
  have HPM := Lib.hid hPM
  clear hPM
  have HR := Lib.hid (dealR_cash h1 h2 h3 h4 h5 h6m h7 hn)
  have bn : (n != 0) = true := by simpa using hn
  have H4 := Lib.hid h4
  clear h1 h2 h3 h4 h5 h6m h7 hn
  generalize gainZ i q pr i.price = gz at *
  obtain ⟨⟨d0, d1⟩, ⟨i0, i1, i2, i3, i4⟩, ⟨f0, f1⟩, ⟨u0, u1⟩⟩ := HC.out _ hC
  go_wp2_with fail
  refine (HIS.out _ (HW.out _ hC)).mono ?_
  rintro e z1 ⟨rfl, hb⟩
  have hC := since_step hC hb
  clear hb
  clear d0 d1 i0 i1 i2 i3 i4 f0 f1 u0 u1
  obtain ⟨⟨d0, d1⟩, ⟨i0, i1, i2, i3, i4⟩, ⟨f0, f1⟩, ⟨u0, u1⟩⟩ := HC.out _ hC
  go_wp2_with fail
  refine (HCK.out _ (HW.out _ hC)).mono ?_
  rintro e z2 ⟨rfl, hb⟩
  have hC := since_step hC hb
  clear hb
  clear d0 d1 i0 i1 i2 i3 i4 f0 f1 u0 u1
  go_upto_region 6 with fail
  go_cut [33] (fun s33 wx => s33 = .bool false ∧ Below z2.heap.size z2 wx)
  case first =>
    obtain ⟨⟨d0, d1⟩, ⟨i0, i1, i2, i3, i4⟩, ⟨f0, f1⟩, ⟨u0, u1⟩⟩ := HC.out _ hC
    by_cases e0 : fa = ta
    · have b1 : (fa == ta) = true := by simpa using e0
      have b2 : (fc == tc) = false := by simpa using fun h => H4.out ⟨e0, h⟩
      clear e0
      go_wp2_with fail
      go_meet
      case rel => exact ⟨rfl, Below.refl _ _⟩
    · have b1 : (fa == ta) = false := by simpa using e0
      clear e0
      go_wp2_with fail
      go_meet
      case rel => exact ⟨rfl, Below.refl _ _⟩
  case rest =>
    obtain ⟨rfl, hbx⟩ := hcut
    have hC := since_step hC hbx
    clear hbx
    obtain ⟨⟨d0, d1⟩, ⟨i0, i1, i2, i3, i4⟩, ⟨f0, f1⟩, ⟨u0, u1⟩⟩ := HC.out _ hC
    go_wp2_with fail
    refine (HGN.out _ (HW.out _ hC)).mono ?_
    rintro e z3 ⟨rfl, hb⟩
    have hC := since_step hC hb
    clear hb
    clear d0 d1 i0 i1 i2 i3 i4 f0 f1 u0 u1
    obtain ⟨⟨d0, d1⟩, ⟨i0, i1, i2, i3, i4⟩, ⟨f0, f1⟩, ⟨u0, u1⟩⟩ := HC.out _ hC
    go_wp2_with fail
    refine (HMV.out _ _ (HW.out _ (since_alloc hC _)) (Sl.new_ z3 (rc Lg.cells [⟨i.id, q⟩]) 75)).mono ?_
    rintro e z4 ⟨⟨m5, A5, k5, rfl, s5, t5, _⟩, hb⟩
    have hbm := since_step (since_alloc (Below.refl _ z3) (.cells #[.int .i64 i.id, .int .i64 q] 75)) hb
    have hC := since_step hC hbm
    clear hbm
    clear hb
    clear d0 d1 i0 i1 i2 i3 i4 f0 f1 u0 u1
    obtain ⟨⟨d0, d1⟩, ⟨i0, i1, i2, i3, i4⟩, ⟨f0, f1⟩, ⟨u0, u1⟩⟩ := HC.out _ hC
    go_wp2_with fail
    refine (HPM.out _ (HW.out _ hC)).mono ?_
    rintro e z5 ⟨hr, hb⟩
    have hC := since_step hC hb
    obtain ⟨A6, k6, rfl, s6⟩ := hr.of
    have HDK : Hid (Dk z5 A5 m5 B A6 P) := Lib.hid ⟨s5.below hb, t5.below hb, s6⟩
    clear s5 t5 s6
    clear hb
    clear d0 d1 i0 i1 i2 i3 i4 f0 f1 u0 u1
    obtain ⟨⟨d0, d1⟩, ⟨i0, i1, i2, i3, i4⟩, ⟨f0, f1⟩, ⟨u0, u1⟩⟩ := HC.out _ hC
    obtain ⟨x0, x1, x2, x3, x4⟩ := (HX.out _ hC).got
    have hBn := HW.out _ hC
    have hcs := @cell_set
    go_wp2_with fail
    refine bodyPost_ret (v := .tuple #[.agg #[.slice none 0 0, .slice none 0 0], .int .i64 (n)]) ?_ rfl ⟨?_, ?_⟩
    · simp [results, Tryz.results8, go_sem, x0, x1, x2, hcs]
    · rw [HR.out]; exact DRes.nil _ _
    · repeat' (first | with_reducible exact hBn | with_reducible refine Below.setCell ?_ ?_ _ | with_reducible refine Below.alloc ?_ ?_ _)
      all_goals first | (simp; done) | (simp; omega)
set_option maxHeartbeats 16000000 in
set_option maxRecDepth 100000 in
theorem dat_G0 (A : Option Addr) (cap : Nat) (l : List Po) (cs : List Pc) (FA : Option Addr) (fcp : Nat) (p : List Fw) (i : Ins) (IA : Option Addr) (IC : Nat) (fa fc ta tc q pr : Int) (w : World) (hl : l.length ≤ 800000) (hcl : ∀ g ∈ cs, g.L.length ≤ 400000) (h6 : ∀ g ∈ cs, ∀ y ∈ g.L, In64 y.qty) (hpn : p.length ≤ 40000) (hpi : ∀ x ∈ p, Fw.in_ x) (hu : In64 fa ∧ In64 fc ∧ In64 ta ∧ In64 tc) (hq : In64 q) (hpr : In64 pr) (hd : Dk w A l cs FA p) (hi : InsAt w i IA IC) (B : List Pc) (P : List Fw) (h1 : isH cs = true) (h2 : isF p = true) (h3 : dchk i q pr = true) (h4 : ¬ (fa = ta ∧ fc = tc))  (h5 : In64 (gainZ i q pr i.price)) (h6m : moveP cs fa fc ta tc [⟨i.id, q⟩] = (0, B)) (h7 : moveR p fa fc ta tc (gainZ i q pr i.price) = (0, P)) :
    Calls Tryz.prog 8 #[.agg #[.slice A l.length cap, .slice FA p.length fcp], insV i IA IC, .agg #[.int .i64 fa, .int .i64 fc], .agg #[.int .i64 ta, .int .i64 tc], .int .i64 q, .int .i64 pr] w fun e w' => DRes w' e (dealR cs p i fa fc ta tc q pr).1 (dealR cs p i fa fc ta tc q pr).2.1 (dealR cs p i fa fc ta tc q pr).2.2 ∧ Below w.heap.size w w' := by
  have hB0 := since_alloc (since_alloc (since_alloc (since_alloc (since_alloc (Below.refl _ w) (.cells #[.slice A l.length cap, .slice FA p.length fcp] 30)) (.cells #[.int .i64 i.id, .int .i64 i.mult, .int .i64 i.price, .int .i64 i.nxt, .slice IA i.mv.length IC] 26)) (.cells #[.int .i64 fa, .int .i64 fc] 28)) (.cells #[.int .i64 ta, .int .i64 tc] 28)) (.cells #[.slice none 0 0, .slice none 0 0] 30)
  have K0 := (((((Bk.new w #[.slice A l.length cap, .slice FA p.length fcp] 30).alloc (.cells #[.int .i64 i.id, .int .i64 i.mult, .int .i64 i.price, .int .i64 i.nxt, .slice IA i.mv.length IC] 26)).alloc (.cells #[.int .i64 fa, .int .i64 fc] 28)).alloc (.cells #[.int .i64 ta, .int .i64 tc] 28)).alloc (.cells #[.slice none 0 0, .slice none 0 0] 30))
  have K1 := ((((Bk.new (w.alloc (.cells #[.slice A l.length cap, .slice FA p.length fcp] 30)) #[.int .i64 i.id, .int .i64 i.mult, .int .i64 i.price, .int .i64 i.nxt, .slice IA i.mv.length IC] 26).alloc (.cells #[.int .i64 fa, .int .i64 fc] 28)).alloc (.cells #[.int .i64 ta, .int .i64 tc] 28)).alloc (.cells #[.slice none 0 0, .slice none 0 0] 30))
  rw [World.size_alloc] at K1
  have K2 := (((Bk.new ((w.alloc (.cells #[.slice A l.length cap, .slice FA p.length fcp] 30)).alloc (.cells #[.int .i64 i.id, .int .i64 i.mult, .int .i64 i.price, .int .i64 i.nxt, .slice IA i.mv.length IC] 26)) #[.int .i64 fa, .int .i64 fc] 28).alloc (.cells #[.int .i64 ta, .int .i64 tc] 28)).alloc (.cells #[.slice none 0 0, .slice none 0 0] 30))
  rw [World.size_alloc, World.size_alloc] at K2
  have K3 := ((Bk.new (((w.alloc (.cells #[.slice A l.length cap, .slice FA p.length fcp] 30)).alloc (.cells #[.int .i64 i.id, .int .i64 i.mult, .int .i64 i.price, .int .i64 i.nxt, .slice IA i.mv.length IC] 26)).alloc (.cells #[.int .i64 fa, .int .i64 fc] 28)) #[.int .i64 ta, .int .i64 tc] 28).alloc (.cells #[.slice none 0 0, .slice none 0 0] 30))
  rw [World.size_alloc, World.size_alloc, World.size_alloc] at K3
  have X := DB.new ((((w.alloc (.cells #[.slice A l.length cap, .slice FA p.length fcp] 30)).alloc (.cells #[.int .i64 i.id, .int .i64 i.mult, .int .i64 i.price, .int .i64 i.nxt, .slice IA i.mv.length IC] 26)).alloc (.cells #[.int .i64 fa, .int .i64 fc] 28)).alloc (.cells #[.int .i64 ta, .int .i64 tc] 28)) 30
  rw [World.size_alloc, World.size_alloc, World.size_alloc, World.size_alloc] at X
  have hBW : Hid (∀ V, Below w.heap.size w V → Dk V A l cs FA p) := Lib.hid fun V h => hd.below h
  have hIW : Hid (∀ V, Below w.heap.size w V → InsAt V i IA IC) := Lib.hid fun V h => hi.below h
  unfold insV
  have hi6 := hi.n64
  clear hd hi
  go_enter Tryz.func8, Tryz.ntmps8
  go_upto_region 1 with fail
  generalize hWW : (((((w.alloc (.cells #[.slice A l.length cap, .slice FA p.length fcp] 30)).alloc (.cells #[.int .i64 i.id, .int .i64 i.mult, .int .i64 i.price, .int .i64 i.nxt, .slice IA i.mv.length IC] 26)).alloc (.cells #[.int .i64 fa, .int .i64 fc] 28)).alloc (.cells #[.int .i64 ta, .int .i64 tc] 28)).alloc (.cells #[.slice none 0 0, .slice none 0 0] 30)) = W at *
  clear hWW
  have HC : Hid (∀ V, Below W.heap.size W V → (V.cell? ⟨w.heap.size, 0, none⟩ = some (.slice A l.length cap) ∧ V.cell? ⟨w.heap.size, 1, none⟩ = some (.slice FA p.length fcp)) ∧ (V.cell? ⟨w.heap.size + 1, 0, none⟩ = some (.int .i64 i.id) ∧ V.cell? ⟨w.heap.size + 1, 1, none⟩ = some (.int .i64 i.mult) ∧ V.cell? ⟨w.heap.size + 1, 2, none⟩ = some (.int .i64 i.price) ∧ V.cell? ⟨w.heap.size + 1, 3, none⟩ = some (.int .i64 i.nxt) ∧ V.cell? ⟨w.heap.size + 1, 4, none⟩ = some (.slice IA i.mv.length IC)) ∧ (V.cell? ⟨w.heap.size + 1 + 1, 0, none⟩ = some (.int .i64 fa) ∧ V.cell? ⟨w.heap.size + 1 + 1, 1, none⟩ = some (.int .i64 fc)) ∧ (V.cell? ⟨w.heap.size + 1 + 1 + 1, 0, none⟩ = some (.int .i64 ta) ∧ V.cell? ⟨w.heap.size + 1 + 1 + 1, 1, none⟩ = some (.int .i64 tc))) := Lib.hid fun V h => ⟨⟨(K0.below h).2 0, (K0.below h).2 1⟩, ⟨(K1.below h).2 0, (K1.below h).2 1, (K1.below h).2 2, (K1.below h).2 3, (K1.below h).2 4⟩, ⟨(K2.below h).2 0, (K2.below h).2 1⟩, ⟨(K3.below h).2 0, (K3.below h).2 1⟩⟩
  have HX : Hid (∀ V, Below W.heap.size W V → DB V (w.heap.size + 1 + 1 + 1 + 1)) := Lib.hid fun V h => X.below h
  have HW : Hid (∀ V, Below W.heap.size W V → Below w.heap.size w V) := Lib.hid fun V h => hB0.trans (h.mono hB0.size)
  have hC := Below.refl W.heap.size W
  clear K0 K1 K2 K3 X hB0
  have HIS := fun V (h : Below w.heap.size w V) => dis_any A cap l cs FA fcp p V (by omega) (fun g hg => Nat.le_trans (hcl g hg) (by omega)) (by omega) (hBW.out V h)
  rw [h1, h2, Bool.and_self] at HIS
  have HIS := Lib.hid HIS
  have hCK := fun V (h : Below w.heap.size w V) => dcheck_any i IA IC q pr V (hIW.out V h)
  rw [if_pos h3] at hCK
  unfold insV at hCK
  have HCK := Lib.hid hCK
  clear hCK
  have hok := (dchk_iff i q pr).1 h3
  have hpp := ok_pr hok.1
  have hGV : gainV i q pr i.price = fV (gainZ i q pr i.price) := if_pos ⟨hok.1, hok.2.1, hpp.1⟩
  have hGE : gainE i q pr i.price = fE (gainZ i q pr i.price) := if_pos ⟨hok.1, hok.2.1, hpp.1⟩
  have hGN := fun V (h : Below w.heap.size w V) => gain_any i IA IC q pr i.price V (hIW.out V h) hq hpr hi6.2.2.1
  rw [hGV, hGE] at hGN
  unfold insV at hGN
  clear hGV hGE hok hpp
  rw [(fV_is h5).1, (fV_is h5).2] at hGN
  have HGN := Lib.hid hGN
  clear hGN
  have hMV := fun LA V (h : Below w.heap.size w V) hM => bmove_any A cap l cs fa fc ta tc LA 1 [⟨i.id, q⟩] V hl hcl h6 (by simp) (by intro y hy; rw [List.mem_singleton.1 hy]; exact hq) (hBW.out V h).s (hBW.out V h).t hM
  rw [h6m] at hMV
  unfold HRes at hMV
  simp only at hMV
  have HMV := Lib.hid hMV
  clear hMV
  have hPM := fun V (h : Below w.heap.size w V) => pmove_any FA fcp p fa fc ta tc (gainZ i q pr i.price) V hpn hpi ⟨hu.1, hu.2.1, hu.2.2.1, hu.2.2.2, h5⟩ (hBW.out V h).f
  rw [h7] at hPM
  have HPM := Lib.hid hPM
  clear hPM
  have HR := Lib.hid (dealR_ok h1 h2 h3 h4 h5 h6m h7)
  have H4 := Lib.hid h4
  clear h1 h2 h3 h4 h5 h6m h7
  generalize gainZ i q pr i.price = gz at *
  obtain ⟨⟨d0, d1⟩, ⟨i0, i1, i2, i3, i4⟩, ⟨f0, f1⟩, ⟨u0, u1⟩⟩ := HC.out _ hC
  go_wp2_with fail
  refine (HIS.out _ (HW.out _ hC)).mono ?_
  rintro e z1 ⟨rfl, hb⟩
  have hC := since_step hC hb
  clear hb
  clear d0 d1 i0 i1 i2 i3 i4 f0 f1 u0 u1
  obtain ⟨⟨d0, d1⟩, ⟨i0, i1, i2, i3, i4⟩, ⟨f0, f1⟩, ⟨u0, u1⟩⟩ := HC.out _ hC
  go_wp2_with fail
  refine (HCK.out _ (HW.out _ hC)).mono ?_
  rintro e z2 ⟨rfl, hb⟩
  have hC := since_step hC hb
  clear hb
  clear d0 d1 i0 i1 i2 i3 i4 f0 f1 u0 u1
  go_upto_region 6 with fail
  go_cut [33] (fun s33 wx => s33 = .bool false ∧ Below z2.heap.size z2 wx)
  case first =>
    obtain ⟨⟨d0, d1⟩, ⟨i0, i1, i2, i3, i4⟩, ⟨f0, f1⟩, ⟨u0, u1⟩⟩ := HC.out _ hC
    by_cases e0 : fa = ta
    · have b1 : (fa == ta) = true := by simpa using e0
      have b2 : (fc == tc) = false := by simpa using fun h => H4.out ⟨e0, h⟩
      clear e0
      go_wp2_with fail
      go_meet
      case rel => exact ⟨rfl, Below.refl _ _⟩
    · have b1 : (fa == ta) = false := by simpa using e0
      clear e0
      go_wp2_with fail
      go_meet
      case rel => exact ⟨rfl, Below.refl _ _⟩
  case rest =>
    obtain ⟨rfl, hbx⟩ := hcut
    have hC := since_step hC hbx
    clear hbx
    obtain ⟨⟨d0, d1⟩, ⟨i0, i1, i2, i3, i4⟩, ⟨f0, f1⟩, ⟨u0, u1⟩⟩ := HC.out _ hC
    go_wp2_with fail
    refine (HGN.out _ (HW.out _ hC)).mono ?_
    rintro e z3 ⟨rfl, hb⟩
    have hC := since_step hC hb
    clear hb
    clear d0 d1 i0 i1 i2 i3 i4 f0 f1 u0 u1
    obtain ⟨⟨d0, d1⟩, ⟨i0, i1, i2, i3, i4⟩, ⟨f0, f1⟩, ⟨u0, u1⟩⟩ := HC.out _ hC
    go_wp2_with fail
    refine (HMV.out _ _ (HW.out _ (since_alloc hC _)) (Sl.new_ z3 (rc Lg.cells [⟨i.id, q⟩]) 75)).mono ?_
    rintro e z4 ⟨⟨m5, A5, k5, rfl, s5, t5, _⟩, hb⟩
    have hbm := since_step (since_alloc (Below.refl _ z3) (.cells #[.int .i64 i.id, .int .i64 q] 75)) hb
    have hC := since_step hC hbm
    clear hbm
    clear hb
    clear d0 d1 i0 i1 i2 i3 i4 f0 f1 u0 u1
    obtain ⟨⟨d0, d1⟩, ⟨i0, i1, i2, i3, i4⟩, ⟨f0, f1⟩, ⟨u0, u1⟩⟩ := HC.out _ hC
    go_wp2_with fail
    refine (HPM.out _ (HW.out _ hC)).mono ?_
    rintro e z5 ⟨hr, hb⟩
    have hC := since_step hC hb
    obtain ⟨A6, k6, rfl, s6⟩ := hr.of
    have HDK : Hid (Dk z5 A5 m5 B A6 P) := Lib.hid ⟨s5.below hb, t5.below hb, s6⟩
    clear s5 t5 s6
    clear hb
    clear d0 d1 i0 i1 i2 i3 i4 f0 f1 u0 u1
    obtain ⟨⟨d0, d1⟩, ⟨i0, i1, i2, i3, i4⟩, ⟨f0, f1⟩, ⟨u0, u1⟩⟩ := HC.out _ hC
    obtain ⟨x0, x1, x2, x3, x4⟩ := (HX.out _ hC).got
    have hBn := HW.out _ hC
    have hcs := @cell_set
    go_wp2_with fail
    refine bodyPost_ret (v := .tuple #[.agg #[.slice A5 m5.length k5, .slice A6 P.length k6], .int .i64 0]) ?_ rfl ⟨?_, ?_⟩
    · simp [results, Tryz.results8, go_sem, x0, x1, x2, hcs]
    · rw [HR.out]; exact ⟨m5, A5, k5, A6, k6, rfl, HDK.out.off2 (HX.out _ hC) _ _⟩
    · repeat' (first | with_reducible exact hBn | with_reducible refine Below.setCell ?_ ?_ _ | with_reducible refine Below.alloc ?_ ?_ _)
      all_goals first | (simp; done) | (simp; omega)
theorem dat_any (A : Option Addr) (cap : Nat) (l : List Po) (cs : List Pc) (FA : Option Addr) (fcp : Nat) (p : List Fw) (i : Ins) (IA : Option Addr) (IC : Nat) (fa fc ta tc q pr : Int) (w : World) (hl : l.length ≤ 800000) (hcl : ∀ g ∈ cs, g.L.length ≤ 400000) (h6 : ∀ g ∈ cs, ∀ y ∈ g.L, In64 y.qty) (hpn : p.length ≤ 40000) (hpi : ∀ x ∈ p, Fw.in_ x) (hu : In64 fa ∧ In64 fc ∧ In64 ta ∧ In64 tc) (hq : In64 q) (hpr : In64 pr) (hd : Dk w A l cs FA p) (hi : InsAt w i IA IC) :
    Calls Tryz.prog 8 #[.agg #[.slice A l.length cap, .slice FA p.length fcp], insV i IA IC, .agg #[.int .i64 fa, .int .i64 fc], .agg #[.int .i64 ta, .int .i64 tc], .int .i64 q, .int .i64 pr] w fun e w' => DRes w' e (dealR cs p i fa fc ta tc q pr).1 (dealR cs p i fa fc ta tc q pr).2.1 (dealR cs p i fa fc ta tc q pr).2.2 ∧ Below w.heap.size w w' := by
  cases h1 : isH cs with
  | false => exact dat_A A cap l cs FA fcp p i IA IC fa fc ta tc q pr w hl hcl h6 hpn hpi hu hq hpr hd hi (by rw [h1]; rfl) (.inl h1)
  | true =>
    cases h2 : isF p with
    | false => exact dat_A A cap l cs FA fcp p i IA IC fa fc ta tc q pr w hl hcl h6 hpn hpi hu hq hpr hd hi (by rw [h1, h2]; rfl) (.inr h2)
    | true =>
      cases h3 : dchk i q pr with
      | false => exact dat_B A cap l cs FA fcp p i IA IC fa fc ta tc q pr w hl hcl h6 hpn hpi hu hq hpr hd hi h1 h2 h3
      | true =>
        by_cases h4 : fa = ta ∧ fc = tc
        · exact dat_C A cap l cs FA fcp p i IA IC fa fc ta tc q pr w hl hcl h6 hpn hpi hu hq hpr hd hi h1 h2 h3 h4
        · obtain ⟨n, B, h6m⟩ : ∃ n B, moveP cs fa fc ta tc [⟨i.id, q⟩] = (n, B) := ⟨_, _, rfl⟩
          obtain ⟨m, P, h7⟩ : ∃ m P, moveR p fa fc ta tc (gainZ i q pr i.price) = (m, P) := ⟨_, _, rfl⟩
          by_cases h5 : In64 (gainZ i q pr i.price)
          · by_cases hn : n = 0
            · subst hn
              by_cases hm : m = 0
              · subst hm; exact dat_G0 A cap l cs FA fcp p i IA IC fa fc ta tc q pr w hl hcl h6 hpn hpi hu hq hpr hd hi B P h1 h2 h3 h4 h5 h6m h7
              · exact dat_F0 A cap l cs FA fcp p i IA IC fa fc ta tc q pr w hl hcl h6 hpn hpi hu hq hpr hd hi m B P h1 h2 h3 h4 h5 h6m h7 hm
            · exact dat_E0 A cap l cs FA fcp p i IA IC fa fc ta tc q pr w hl hcl h6 hpn hpi hu hq hpr hd hi n B h1 h2 h3 h4 h5 h6m hn
          · exact dat_D0 A cap l cs FA fcp p i IA IC fa fc ta tc q pr w hl hcl h6 hpn hpi hu hq hpr hd hi h1 h2 h3 h4 h5
end Go.Proofs.YtahdmomadbbhoaaGreat
end
