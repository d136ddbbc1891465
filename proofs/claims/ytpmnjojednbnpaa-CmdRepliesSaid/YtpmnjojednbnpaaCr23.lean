import Derived.Test.YtpmnjojednbnpaaCr19
import Derived.Test.YtpmnjojednbnpaaCr20
import Derived.Test.YtpmnjojednbnpaaCr21
import Derived.Test.YtpmnjojednbnpaaCr22
section
namespace Go.Proofs.Ytpmnjojednbnpaa
open Go.ChangeShapes Go.WideShapes Go.ChangeAt Go.RowKit
set_option linter.unusedVariables false
set_option linter.unusedSimpArgs false

theorem rd_lo34 {w : World} {r : List Value} (h : Go.Proofs.Ytpmnjojednbnpaa.Rd w (.cat (.int .i64) (.cat (.int .i64) (.cat (.int .i64) .nil))) r) : ∃ g : Lo, r = g.cells ∧ g.in64 := by
  obtain ⟨p, q, rfl, h1, p2, q2, rfl, h2, p3, q3, rfl, h3, rfl⟩ := h
  obtain ⟨a, rfl, i1⟩ := rd_int h1
  obtain ⟨b, rfl, i2⟩ := rd_int h2
  obtain ⟨c, rfl, i3⟩ := rd_int h3
  exact ⟨⟨a, b, c⟩, rfl, i1, i2, i3⟩
theorem rd_db34 {w : World} {r : List Value} (h : Go.Proofs.Ytpmnjojednbnpaa.Rd w (.cat (.cat (.int .i64) (.cat (.int .i64) .nil)) (.cat (.cat (.int .i64) (.cat (.int .i64) .nil)) (.cat (.int .i64) .nil))) r) : ∃ g : Db, r = g.cells ∧ g.in64 := by
  obtain ⟨p, q, rfl, ⟨p1, q1, rfl, h1, p2, q2, rfl, h2, rfl⟩, p5, q5, rfl, ⟨p3, q3, rfl, h3, p4, q4, rfl, h4, rfl⟩, p6, q6, rfl, h5, rfl⟩ := h
  obtain ⟨a, rfl, i1⟩ := rd_int h1
  obtain ⟨b, rfl, i2⟩ := rd_int h2
  obtain ⟨c, rfl, i3⟩ := rd_int h3
  obtain ⟨d, rfl, i4⟩ := rd_int h4
  obtain ⟨e, rfl, i5⟩ := rd_int h5
  exact ⟨⟨a, b, c, d, e⟩, rfl, i1, i2, i3, i4, i5⟩
def InR34 (w : World) (x : Rn) : Prop := In64p x.a ∧ In64p x.b ∧ In64p x.q ∧ x.lots.length ≤ x.c ∧ x.c ≤ maxLen ∧ Sl w x.A (rc Lo.cells x.lots) ∧ ∀ y ∈ x.lots, y.in64
theorem rd_rt34 {w : World} {r : List Value} (h : Go.Proofs.Ytpmnjojednbnpaa.Rd w (.cat (.cat (.int .i64) (.cat (.int .i64) .nil)) (.cat (.int .i64) (.cat (.sl (.cat (.int .i64) (.cat (.int .i64) (.cat (.int .i64) .nil)))) .nil))) r) : ∃ g : Rn, r = g.cells ∧ InR34 w g := by
  obtain ⟨p, q, rfl, ⟨p1, q1, rfl, h1, p2, q2, rfl, h2, rfl⟩, p5, q5, rfl, h3, p6, q6, rfl, h4, rfl⟩ := h
  obtain ⟨a, rfl, i1⟩ := rd_int h1
  obtain ⟨b, rfl, i2⟩ := rd_int h2
  obtain ⟨c, rfl, i3⟩ := rd_int h3
  obtain ⟨A, n, k, rows, rfl, _⟩ := _root_.id h4
  obtain ⟨L, hL, g1, g2, g3, g4⟩ := rd_rowsP (f := Lo.cells) (fun r => rd_lo34) h4
  subst hL
  exact ⟨⟨a, b, c, A, k, L⟩, rfl, i1, i2, i3, g1, g2, g3, g4⟩
theorem rd_reply34 {w : World} {a : Array Value} (h : Go.Proofs.Ytpmnjojednbnpaa.Rd w (.cat (.int .i64) (.cat (.sl (.int .i64)) (.cat (.sl (.cat (.cat (.int .i64) (.cat (.int .i64) .nil)) (.cat (.cat (.int .i64) (.cat (.int .i64) .nil)) (.cat (.int .i64) .nil)))) (.cat (.sl (.cat (.cat (.int .i64) (.cat (.int .i64) .nil)) (.cat (.int .i64) (.cat (.sl (.cat (.int .i64) (.cat (.int .i64) (.cat (.int .i64) .nil)))) .nil)))) .nil)))) a.toList) : ∃ (er : Int) (A1 A2 A3 : Option Addr) (c1 c2 c3 : Nat) (nums : List Int) (debs : List Db) (rets : List Rn), a = #[.int .i64 er, .slice A1 nums.length c1, .slice A2 debs.length c2, .slice A3 rets.length c3] ∧ In64p er ∧ (nums.length ≤ c1 ∧ c1 ≤ maxLen ∧ Sl w A1 (ints .i64 nums) ∧ ∀ x ∈ nums, In64p x) ∧ (debs.length ≤ maxLen ∧ Sl w A2 (rc Db.cells debs) ∧ ∀ x ∈ debs, x.in64) ∧ rets.length ≤ maxLen ∧ Sl w A3 (rc Rn.cells rets) ∧ ∀ x ∈ rets, InR34 w x := by
  obtain ⟨r, hr⟩ : ∃ r, a.toList = r := ⟨_, rfl⟩
  rw [hr] at h
  have ha : a = r.toArray := by rw [← hr]
  obtain ⟨p, q, rfl, h1, p2, q2, rfl, h2, p3, q3, rfl, h3, p4, q4, rfl, h4, rfl⟩ := h
  obtain ⟨er, rfl, i1⟩ := rd_int h1
  obtain ⟨A1, n1, k1, rows1, rfl, _⟩ := _root_.id h2
  obtain ⟨A2, n2, k2, rows2, rfl, _⟩ := _root_.id h3
  obtain ⟨A3, n3, k3, rows3, rfl, _⟩ := _root_.id h4
  obtain ⟨L1, e1, g1, g2, g3, g4⟩ := rd_rowsP (f := nC) (fun r => rd_int) h2
  obtain ⟨L2, e2, f1, f2, f3, f4⟩ := rd_rowsP (f := Db.cells) (fun r => rd_db34) h3
  obtain ⟨L3, e3, d1, d2, d3, d4⟩ := rd_rowsP (f := Rn.cells) (fun r => rd_rt34) h4
  subst e1; subst e2; subst e3
  rw [rc_nC] at g3
  exact ⟨er, A1, A2, A3, k1, k2, k3, L1, L2, L3, ha, i1, ⟨g1, g2, g3, g4⟩, ⟨by omega, f3, f4⟩, by omega, d3, d4⟩
theorem few34 (er : Int) (A1 A2 A3 : Option Addr) (c1 c2 c3 : Nat) (nums : List Int) (debs : List Db) (rets : List Rn) (w : World) (hc1 : nums.length ≤ c1) (hcm : c1 ≤ maxLen) (hs1 : Sl w A1 (ints .i64 nums)) (hdl : debs.length ≤ maxLen) (hrl : rets.length ≤ maxLen) (hs2 : Sl w A2 (rc Db.cells debs)) (hs3 : Sl w A3 (rc Rn.cells rets)) (hx : ∀ x ∈ rets, x.lots.length ≤ x.c ∧ x.c ≤ maxLen ∧ Sl w x.A (rc Lo.cells x.lots)) :
    Calls Try.prog 19 #[.agg #[.int .i64 er, .slice A1 nums.length c1, .slice A2 debs.length c2, .slice A3 rets.length c3]] w fun e w' => ∃ (LD : List Db) (LR : List Rn) (AD : Option Addr) (cD : Nat) (AR : Option Addr) (cR : Nat), e = .returned (.agg #[.int .i64 er, .slice A1 (nums.take 40).length c1, .slice AD LD.length cD, .slice AR LR.length cR]) ∧ LD = debs.take 12 ∧ LR = (rets.take 12).map fewR ∧ w'.ownsRow w.heap.size 94 5 (.slice AD LD.length cD) LD.length (rc Db.cells LD) ∧ w'.ownsRow w.heap.size 97 4 (.slice AR LR.length cR) LR.length (rc Rn.cells LR) ∧ Below w.heap.size w w' := by
  by_cases h : 40 < nums.length
  · exact few34b er A1 A2 A3 c1 c2 c3 nums _ debs rets w rfl h hc1 hcm hs1 hdl hrl hs2 hs3 hx
  · exact few34a er A1 A2 A3 c1 c2 c3 nums _ debs rets w rfl (by omega) hc1 hcm hs1 hdl hrl hs2 hs3 hx
theorem rres_ok {w' : World} {e : Ending} {x : Rep4} (h : RRes34 w' e true x) : ∃ (A1 : Option Addr) (c1 : Nat) (A2 : Option Addr) (c2 : Nat) (A3 : Option Addr) (c3 : Nat) (RL : List Rn), e = .returned (.tuple #[.agg #[.int .i64 x.1, .slice A1 x.2.1.length c1, .slice A2 x.2.2.1.length c2, .slice A3 RL.length c3], .int .i64 0]) ∧ RL.map Rn.pl = x.2.2.2 ∧ Sl w' A1 (ints .i64 x.2.1) ∧ Sl w' A2 (rc Db.cells x.2.2.1) ∧ Sl w' A3 (rc Rn.cells RL) ∧ ∀ y ∈ RL, Sl w' y.A (rc Lo.cells y.lots) := by
  unfold RRes34 at h
  rw [if_pos rfl] at h
  exact h
theorem rres_no {w' : World} {e : Ending} {x : Rep4} (h : RRes34 w' e false x) : e = .returned (.tuple #[.agg #[.int .i64 0, .slice none 0 0, .slice none 0 0, .slice none 0 0], .int .i64 3]) := by
  unfold RRes34 at h
  rw [if_neg (by decide)] at h
  exact h
theorem lot_blk {w : World} {A : Option Addr} {l : List Lo} (h : Sl w A (rc Lo.cells l)) : ∀ b o, A = some ⟨b, o, none⟩ → l ≠ [] → b < w.heap.size := fun b o e hne => by
  obtain ⟨b1, o1, e1, h1, _⟩ := Sl.elem (m := 3) (fun x => rfl) (by decide) h (List.length_pos_iff.2 hne)
  rw [e] at e1
  injection e1 with e1
  injection e1 with e1 _
  omega
set_option maxHeartbeats 32000000 in
set_option maxRecDepth 100000 in
theorem walk_CmdReplies (a0 : Array Value) (a1 : Option Addr) (n1 c1 : Nat) (w : World) (w0 : Go.Proofs.Ytpmnjojednbnpaa.Rd w (.cat (.int .i64) (.cat (.sl (.int .i64)) (.cat (.sl (.cat (.cat (.int .i64) (.cat (.int .i64) .nil)) (.cat (.cat (.int .i64) (.cat (.int .i64) .nil)) (.cat (.int .i64) .nil)))) (.cat (.sl (.cat (.cat (.int .i64) (.cat (.int .i64) .nil)) (.cat (.int .i64) (.cat (.sl (.cat (.int .i64) (.cat (.int .i64) (.cat (.int .i64) .nil)))) .nil)))) .nil)))) a0.toList) (w1 : Go.Proofs.Ytpmnjojednbnpaa.Rd w (.sl (.int .u8)) [.slice a1 n1 c1]) :
    Calls Try.prog 5 #[.agg a0, .slice a1 n1 c1] w fun e w' => e = .returned (.bool true) ∧ Below w.heap.size w w' := by
  obtain ⟨bs, hbs, hbc, hbm, hbS, hbO⟩ := rd_bytes w1
  subst hbs
  obtain ⟨LB, hLB⟩ : ∃ LB, bs.take 400 = LB := ⟨_, rfl⟩
  have hmb : min bs.length 400 = LB.length := by rw [← hLB, List.length_take]; omega
  have hLBl : LB.length ≤ 400 := by omega
  have hLBO : Oct LB := by rw [← hLB]; exact hbO.take 400
  have hLBS : Sl w a1 (by8 LB) := by
    have := hbS.take 400
    rw [← by8_take, hLB] at this
    exact this
  have HMB := Lib.hid hmb
  obtain ⟨cb, hcb⟩ : ∃ cb, c1 = cb := ⟨_, rfl⟩
  subst hcb
  obtain ⟨er, A1, A2, A3, k1, k2, k3, nums, debs, rets, rfl, i1, ⟨a2, a3, a4, a5⟩, ⟨b2, b4, b5⟩, d2, d4, d5⟩ := rd_reply34 w0
  unfold maxLen at hbm
  obtain ⟨q, hq⟩ : ∃ q, w.heap.size = q := ⟨_, rfl⟩
  have HQ := Lib.hid hq
  have hal := since_alloc (Below.refl _ w) (.cells #[.int .i64 er, .slice A1 nums.length k1, .slice A2 debs.length k2, .slice A3 rets.length k3] 50)
  have hx1 := heap_alloc_new w (.cells #[.int .i64 er, .slice A1 nums.length k1, .slice A2 debs.length k2, .slice A3 rets.length k3] 50)
  have hsz := World.size_alloc w (.cells #[.int .i64 er, .slice A1 nums.length k1, .slice A2 debs.length k2, .slice A3 rets.length k3] 50)
  have HFW := Lib.hid (few34 er A1 A2 A3 k1 k2 k3 nums debs rets (w.alloc (.cells #[.int .i64 er, .slice A1 nums.length k1, .slice A2 debs.length k2, .slice A3 rets.length k3] 50)) a2 a3 (a4.below hal) b2 d2 (b4.below hal) (d4.below hal) (fun x hx => ⟨(d5 x hx).2.2.2.1, (d5 x hx).2.2.2.2.1, (d5 x hx).2.2.2.2.2.1.below hal⟩))
  obtain ⟨NU, hNU⟩ : ∃ NU, nums.take 40 = NU := ⟨_, rfl⟩
  have hNl : NU.length ≤ 40 := by rw [← hNU, List.length_take]; omega
  rw [hNU] at HFW
  have HN6 : Hid (∀ x ∈ NU, In64p x) := Lib.hid fun x hx => a5 x (by rw [← hNU] at hx; exact List.mem_of_mem_take hx)
  have hNS : Sl w A1 (ints .i64 NU) := by
    have := a4.take 40
    rw [← hNU]
    simpa [ints, List.map_take] using this
  have HW1 : Hid (∀ V, Below q w V → Sl V A1 (ints .i64 NU) ∧ Sl V a1 (by8 LB) ∧ ∀ x ∈ rets, Sl V x.A (rc Lo.cells x.lots)) := Lib.hid fun V hV => by
    have hV2 : Below w.heap.size w V := by rw [hq]; exact hV
    exact ⟨hNS.below hV2, hLBS.below hV2, fun x hx => (d5 x hx).2.2.2.2.2.1.below hV2⟩
  have HIN : Hid ((∀ x ∈ debs, x.in64) ∧ (∀ x ∈ rets, In64p x.a ∧ In64p x.b ∧ In64p x.q ∧ ∀ y ∈ x.lots, y.in64)) := Lib.hid ⟨b5, fun x hx => ⟨(d5 x hx).1, (d5 x hx).2.1, (d5 x hx).2.2.1, (d5 x hx).2.2.2.2.2.2⟩⟩
  have HI1 := Lib.hid i1
  have HN0 := Lib.hid (show bs.length ≤ 9223372036854775807 by omega)
  have HNC := Lib.hid hbc
  have HCC := Lib.hid (show c1 ≤ 9223372036854775807 by omega)
  have HLO := Lib.hid hLBO
  have HLV := Lib.hid (fun V => lives34_any V)
  rw [hq] at hal hx1 hsz ⊢
  obtain ⟨W1, hW1⟩ : ∃ W1, w.alloc (.cells #[.int .i64 er, .slice A1 nums.length k1, .slice A2 debs.length k2, .slice A3 rets.length k3] 50) = W1 := ⟨_, rfl⟩
  have HWE := Lib.hid hW1
  rw [hW1] at hal hx1 hsz HFW
  have HSZ := Lib.hid hsz
  have HX1 := Lib.hid hx1
  have HAL := Lib.hid hal
  clear w0 w1 i1 a2 a3 a4 a5 b2 b4 b5 d2 d4 d5 hNU hNS hq hW1 hsz hal hmb hLB hLBO hLBS hbc hbm hbS hbO
  go_enter Try.func5, Try.ntmps5
  go_upto_region 1 with fail
  rw [HWE.out, HQ.out]
  have ca0 : W1.cell? ⟨q, 0, none⟩ = some (.int .i64 er) := (cell_of_row W1 (q) 0 _ _ (0, 0) hx1).trans rfl
  have fca0 : W1.frozen? ⟨q, 0, none⟩ = false := by simp [World.frozen?, hx1]
  have ca1 : W1.cell? ⟨q, 1, none⟩ = some (.slice A1 nums.length k1) := (cell_of_row W1 (q) 1 _ _ (0, 0) hx1).trans rfl
  have fca1 : W1.frozen? ⟨q, 1, none⟩ = false := by simp [World.frozen?, hx1]
  have ca2 : W1.cell? ⟨q, 2, none⟩ = some (.slice A2 debs.length k2) := (cell_of_row W1 (q) 2 _ _ (0, 0) hx1).trans rfl
  have fca2 : W1.frozen? ⟨q, 2, none⟩ = false := by simp [World.frozen?, hx1]
  have ca3 : W1.cell? ⟨q, 3, none⟩ = some (.slice A3 rets.length k3) := (cell_of_row W1 (q) 3 _ _ (0, 0) hx1).trans rfl
  have fca3 : W1.frozen? ⟨q, 3, none⟩ = false := by simp [World.frozen?, hx1]
  have cal : q < W1.heap.size := (Array.getElem?_eq_some_iff.1 hx1).1
  clear hx1
  go_wp2_with fail
  refine HFW.out.mono ?_
  rintro e v1 ⟨LD, LR, AD, cD, AR, cR, rfl, hLD, hLR, hod, hor, hb1⟩
  have hx1 := (hb1.block q (by rw [HSZ.out]; omega)).trans HX1.out
  have hB1 := HAL.out.trans (hb1.mono (by rw [HSZ.out]; omega))
  rw [HSZ.out] at hod hor
  clear ca0 fca0 ca1 fca1 ca2 fca2 ca3 fca3 cal
  clear hb1 HFW HX1 HAL
  have hdl : LD.length ≤ 12 := by rw [hLD, List.length_take]; omega
  have hrl : LR.length ≤ 12 := by rw [hLR, List.length_map, List.length_take]; omega
  have ca0 : v1.cell? ⟨q, 0, none⟩ = some (.int .i64 er) := (cell_of_row v1 (q) 0 _ _ (0, 0) hx1).trans rfl
  have fca0 : v1.frozen? ⟨q, 0, none⟩ = false := by simp [World.frozen?, hx1]
  have ca1 : v1.cell? ⟨q, 1, none⟩ = some (.slice A1 nums.length k1) := (cell_of_row v1 (q) 1 _ _ (0, 0) hx1).trans rfl
  have fca1 : v1.frozen? ⟨q, 1, none⟩ = false := by simp [World.frozen?, hx1]
  have ca2 : v1.cell? ⟨q, 2, none⟩ = some (.slice A2 debs.length k2) := (cell_of_row v1 (q) 2 _ _ (0, 0) hx1).trans rfl
  have fca2 : v1.frozen? ⟨q, 2, none⟩ = false := by simp [World.frozen?, hx1]
  have ca3 : v1.cell? ⟨q, 3, none⟩ = some (.slice A3 rets.length k3) := (cell_of_row v1 (q) 3 _ _ (0, 0) hx1).trans rfl
  have fca3 : v1.frozen? ⟨q, 3, none⟩ = false := by simp [World.frozen?, hx1]
  have cal : q < v1.heap.size := (Array.getElem?_eq_some_iff.1 hx1).1
  have HC := Lib.hid (cut_any a1 bs.length c1 400 v1 HN0.out (by omega) HNC.out HCC.out)
  have hz2 : ((((v1.setCell ⟨q, 0, none⟩ (.int .i64 er)).setCell ⟨q, 1, none⟩ (.slice A1 NU.length k1)).setCell ⟨q, 2, none⟩ (.slice AD LD.length cD)).setCell ⟨q, 3, none⟩ (.slice AR LR.length cR)).heap[q]? = some (.cells #[.int .i64 er, .slice A1 NU.length k1, .slice AD LD.length cD, .slice AR LR.length cR] 50 (0, 0)) := (setb34 3 (.slice AR LR.length cR) (setb34 2 (.slice AD LD.length cD) (setb34 1 (.slice A1 NU.length k1) (setb34 0 (.int .i64 er) hx1))))
  have hod2 := own_at34 hod (((((Chg.refl q none v1).trans (Chg.set (g := q) (row := none) 0 (.int .i64 er)) (.inl rfl)).trans (Chg.set (g := q) (row := none) 1 (.slice A1 NU.length k1)) (.inl rfl)).trans (Chg.set (g := q) (row := none) 2 (.slice AD LD.length cD)) (.inl rfl)).trans (Chg.set (g := q) (row := none) 3 (.slice AR LR.length cR)) (.inl rfl)) (Nat.lt_succ_self q)
  have hor2 := own_at34 hor (((((Chg.refl q none v1).trans (Chg.set (g := q) (row := none) 0 (.int .i64 er)) (.inl rfl)).trans (Chg.set (g := q) (row := none) 1 (.slice A1 NU.length k1)) (.inl rfl)).trans (Chg.set (g := q) (row := none) 2 (.slice AD LD.length cD)) (.inl rfl)).trans (Chg.set (g := q) (row := none) 3 (.slice AR LR.length cR)) (.inl rfl)) (Nat.lt_succ_self q)
  have hB2 : Below q w ((((v1.setCell ⟨q, 0, none⟩ (.int .i64 er)).setCell ⟨q, 1, none⟩ (.slice A1 NU.length k1)).setCell ⟨q, 2, none⟩ (.slice AD LD.length cD)).setCell ⟨q, 3, none⟩ (.slice AR LR.length cR)) := ((((hB1.setCell (Nat.le_refl _) (.int .i64 er)).setCell (Nat.le_refl _) (.slice A1 NU.length k1)).setCell (Nat.le_refl _) (.slice AD LD.length cD)).setCell (Nat.le_refl _) (.slice AR LR.length cR))
  obtain ⟨V2, hV2⟩ : ∃ V2, ((((v1.setCell ⟨q, 0, none⟩ (.int .i64 er)).setCell ⟨q, 1, none⟩ (.slice A1 NU.length k1)).setCell ⟨q, 2, none⟩ (.slice AD LD.length cD)).setCell ⟨q, 3, none⟩ (.slice AR LR.length cR)) = V2 := ⟨_, rfl⟩
  have HV2E := Lib.hid hV2
  rw [hV2] at hz2 hod2 hor2 hB2
  obtain ⟨hs1, hsb, hsx⟩ := HW1.out V2 hB2
  have hlx : ∀ x ∈ LR, Sl V2 x.A (rc Lo.cells x.lots) ∧ x.lots.length ≤ 20 ∧ In64p x.a ∧ In64p x.b ∧ In64p x.q ∧ ∀ y ∈ x.lots, y.in64 := fun x hx => by
    rw [hLR] at hx
    obtain ⟨y, hy, rfl⟩ := List.mem_map.1 hx
    have hy := List.mem_of_mem_take hy
    obtain ⟨j1, j2, j3, j4⟩ := HIN.out.2 y hy
    have h1 := (hsx y hy).take (20 * 3)
    rw [rc_take (f := Lo.cells) (m := 3) (fun x => rfl)] at h1
    exact ⟨h1, by show (y.lots.take 20).length ≤ 20; rw [List.length_take]; omega, j1, j2, j3, fun z hz => j4 z (List.mem_of_mem_take hz)⟩
  have hld : ∀ x ∈ LD, x.in64 := fun x hx => by
    rw [hLD] at hx
    exact HIN.out.1 x (List.mem_of_mem_take hx)
  have HV : Hid (∀ V, Below V2.heap.size V2 V → V.heap[q]? = some (.cells #[.int .i64 er, .slice A1 NU.length k1, .slice AD LD.length cD, .slice AR LR.length cR] 50 (0, 0)) ∧ Sl V A1 (ints .i64 NU) ∧ Sl V AD (rc Db.cells LD) ∧ Sl V AR (rc Rn.cells LR) ∧ (∀ x ∈ LR, Sl V x.A (rc Lo.cells x.lots)) ∧ Sl V a1 (by8 LB) ∧ Below q w V) := Lib.hid fun V hV =>
    ⟨(hV.block q (Array.getElem?_eq_some_iff.1 hz2).1).trans hz2, hs1.below hV, (Sl.of_own hod2).below hV, (Sl.of_own hor2).below hV, fun x hx => (hlx x hx).1.below hV, hsb.below hV, hB2.trans (hV.mono (Nat.le_of_lt (Array.getElem?_eq_some_iff.1 hz2).1))⟩
  have HPI : Hid (∀ x ∈ LR, x.lots.length ≤ 20 ∧ In64p x.a ∧ In64p x.b ∧ In64p x.q ∧ ∀ y ∈ x.lots, y.in64) := Lib.hid fun x hx => (hlx x hx).2
  have HLD6 := Lib.hid hld
  have HDL := Lib.hid hdl
  have HRL := Lib.hid hrl
  clear hLD hLR hod hor hx1 hB1 hz2 hod2 hor2 hB2 hV2 hs1 hsb hsx hlx hld HW1 HIN hdl hrl
  go_upto_region 2 with (first | (go_at_call 15; refine HC.out.mono ?_; rintro e y ⟨rfl, rfl⟩) | fail)
  rw [HV2E.out, HMB.out]
  clear ca0 fca0 ca1 fca1 ca2 fca2 ca3 fca3 cal
  clear HC
  -- what is written
  obtain ⟨hx, s1, s2, s3, s4, sb, hB⟩ := HV.out V2 (Below.refl _ _)
  have HPK : Hid ((packL (repL er NU LD LR)).length ≤ 100000) := Lib.hid (by
    have hok : ∀ x ∈ LR, x.ok V2.heap.size V2 := fun x hx => ⟨(HPI.out x hx).2.1, (HPI.out x hx).2.2.1, (HPI.out x hx).2.2.2.1, by have := (HPI.out x hx).1; omega, (HPI.out x hx).2.2.2.2, s4 x hx, lot_blk (s4 x hx)⟩
    have q1 := packL_le HN6.out
    have q2 := Db.encl HLD6.out
    have q3 := Rn.lens hok
    have q0 := packL_le (l := [er]) (fun x hx => by rw [List.mem_singleton.1 hx]; exact HI1.out)
    have hl : ∀ n : Nat, n ≤ 1000 → (packI (n : Int)).length ≤ 10 := fun n h => vb_len10 (zz_lt (by unfold In64p; omega))
    have l1 := hl NU.length (by omega)
    have l2 := hl LD.length (by have := HDL.out; omega)
    have l3 := hl LR.length (by have := HRL.out; omega)
    have := HDL.out
    have := HRL.out
    rw [packL_one] at q0
    simp only [List.length_singleton] at q0
    unfold repL
    simp only [packL_cons, packL_append, List.length_append]
    omega)
  have HEN := Lib.hid (encrep34 er A1 AD AR k1 cD cR NU LD LR V2 HI1.out (by omega) HN6.out s1 (by have := HDL.out; omega) HLD6.out s2 (by have := HRL.out; omega) (fun x hx => ⟨(HPI.out x hx).2.1, (HPI.out x hx).2.2.1, (HPI.out x hx).2.2.2.1, by have := (HPI.out x hx).1; omega, (HPI.out x hx).2.2.2.2, s4 x hx, lot_blk (s4 x hx)⟩) s3)
  have HOC : Hid (Oct (packL (repL er NU LD LR))) := Lib.hid (packL_byte _)
  obtain ⟨D, hD⟩ : ∃ D, D = rdRep ⟨packL (repL er NU LD LR), 0⟩ := ⟨_, rfl⟩
  have hDe : D = ((er, NU, LD, LR.map Rn.pl), ⟨[], 0⟩) := by
    rw [hD, repL_Q]
    have h := canRep.pack (er, NU, LD, LR.map Rn.pl) [] ⟨HI1.out, ⟨by show (NU.length : Int) ≤ 4096; omega, HN6.out⟩, ⟨by have := HDL.out; show (LD.length : Int) ≤ 4096; omega, HLD6.out⟩, ⟨by have := HRL.out; show ((LR.map Rn.pl).length : Int) ≤ 4096; rw [List.length_map]; omega, fun y hy => by
      obtain ⟨x, hx, rfl⟩ := List.mem_map.1 hy
      obtain ⟨j0, j1, j2, j3, j4⟩ := HPI.out x hx
      exact ⟨j1, j2, j3, by show (x.lots.length : Int) ≤ 4096; omega, j4⟩⟩⟩
    rw [List.append_nil] at h
    exact h
  have HDE : Hid (rdRep ⟨packL (repL er NU LD LR), 0⟩ = ((er, NU, LD, LR.map Rn.pl), ⟨[], 0⟩)) := Lib.hid (hD ▸ hDe)
  have HT9 : Hid ((packL (repL er NU LD LR)).length ≤ 900000) := Lib.hid (by have := HPK.out; omega)
  have HRE := Lib.hid (fun V (hV : Below V2.heap.size V2 V) => rencrep34 er A1 AD AR k1 cD cR NU LD LR V HI1.out (by omega) HN6.out (HV.out V hV).2.1 (by have := HDL.out; omega) HLD6.out (HV.out V hV).2.2.1 (by have := HRL.out; omega) (fun x hx => ⟨⟨(HPI.out x hx).2.1, (HPI.out x hx).2.2.1, (HPI.out x hx).2.2.2.1, by have := (HPI.out x hx).1; show (x.lots.length : Int) ≤ 4096; omega, (HPI.out x hx).2.2.2.2⟩, (HV.out V hV).2.2.2.2.1 x hx⟩) (HV.out V hV).2.2.2.1 HT9.out)
  obtain ⟨BO, hBO⟩ : ∃ BO, packL (repL er NU LD LR) = BO := ⟨_, rfl⟩
  rw [hBO] at HEN HPK HOC HDE HRE
  have ca0 : V2.cell? ⟨q, 0, none⟩ = some (.int .i64 er) := (cell_of_row V2 (q) 0 _ _ (0, 0) hx).trans rfl
  have fca0 : V2.frozen? ⟨q, 0, none⟩ = false := by simp [World.frozen?, hx]
  have ca1 : V2.cell? ⟨q, 1, none⟩ = some (.slice A1 NU.length k1) := (cell_of_row V2 (q) 1 _ _ (0, 0) hx).trans rfl
  have fca1 : V2.frozen? ⟨q, 1, none⟩ = false := by simp [World.frozen?, hx]
  have ca2 : V2.cell? ⟨q, 2, none⟩ = some (.slice AD LD.length cD) := (cell_of_row V2 (q) 2 _ _ (0, 0) hx).trans rfl
  have fca2 : V2.frozen? ⟨q, 2, none⟩ = false := by simp [World.frozen?, hx]
  have ca3 : V2.cell? ⟨q, 3, none⟩ = some (.slice AR LR.length cR) := (cell_of_row V2 (q) 3 _ _ (0, 0) hx).trans rfl
  have fca3 : V2.frozen? ⟨q, 3, none⟩ = false := by simp [World.frozen?, hx]
  have cal : q < V2.heap.size := (Array.getElem?_eq_some_iff.1 hx).1
  clear hD hDe hBO hx s1 s2 s3 s4 sb hB HT9
  go_wp2_with fail
  refine HEN.out.mono ?_
  rintro e v3 ⟨⟨AO, cO, rfl, ownO⟩, hb3⟩
  have hso := Sl.of_own ownO
  have HB3 := Lib.hid hb3
  clear ca0 fca0 ca1 fca1 ca2 fca2 ca3 fca3 cal
  clear ownO hb3 HEN
  have HDC := Lib.hid (decrep34 AO cO BO v3 (by have := HPK.out; omega) HOC.out hso)
  have HSO := Lib.hid hso
  clear hso
  go_wp2_with fail
  refine HDC.out.mono ?_
  rintro e v4 ⟨hr4, hb4⟩
  rw [HDE.out] at hr4
  obtain ⟨B1, j1, B2, j2, B3, j3, RL, rfl, hRL, t1, t2, t3, t4⟩ := rres_ok hr4
  simp only at hRL t1 t2
  have hB4 := since_step HB3.out hb4
  have hso4 := HSO.out.below hb4
  clear hr4 hb4 HDC
  have hal := since_alloc (Below.refl _ v4) (.cells #[.int .i64 er, .slice B1 NU.length j1, .slice B2 LD.length j2, .slice B3 RL.length j3] 50)
  have hx6 := heap_alloc_new v4 (.cells #[.int .i64 er, .slice B1 NU.length j1, .slice B2 LD.length j2, .slice B3 RL.length j3] 50)
  have hsz4 := World.size_alloc v4 (.cells #[.int .i64 er, .slice B1 NU.length j1, .slice B2 LD.length j2, .slice B3 RL.length j3] 50)
  obtain ⟨b6, hb6⟩ : ∃ b6, v4.heap.size = b6 := ⟨_, rfl⟩
  obtain ⟨V5, hV5⟩ : ∃ V5, v4.alloc (.cells #[.int .i64 er, .slice B1 NU.length j1, .slice B2 LD.length j2, .slice B3 RL.length j3] 50) = V5 := ⟨_, rfl⟩
  have HB6E := Lib.hid hb6
  have HV5E := Lib.hid hV5
  have hB5 := since_step hB4 hal
  have HT : Hid (∀ V, Below V5.heap.size V5 V → V.heap[b6]? = some (.cells #[.int .i64 er, .slice B1 NU.length j1, .slice B2 LD.length j2, .slice B3 RL.length j3] 50 (0, 0)) ∧ Sl V B1 (ints .i64 NU) ∧ Sl V B2 (rc Db.cells LD) ∧ Sl V B3 (rc Rn.cells RL) ∧ (∀ y ∈ RL, Sl V y.A (rc Lo.cells y.lots)) ∧ Sl V AO (by8 BO) ∧ Below V2.heap.size V2 V) := Lib.hid (by
    rw [← hV5, ← hb6]
    intro V hV
    have h2 := since_step hal hV
    exact ⟨(hV.block _ (by rw [hsz4]; omega)).trans hx6, t1.below h2, t2.below h2, t3.below h2, fun y hy => (t4 y hy).below h2, hso4.below h2, since_step hB4 h2⟩)
  have HRL2 := Lib.hid hRL
  clear hal hx6 hsz4 hb6 hV5 hB5 hB4 hso4 t1 t2 t3 t4 hRL
  go_upto_region 4 with fail
  rw [HV5E.out, HB6E.out]
  obtain ⟨y6, _, _, _, _, _, hB5⟩ := HT.out V5 (Below.refl _ _)
  have hx5 := (HV.out V5 hB5).1
  have HC1 := Lib.hid (HRE.out V5 hB5)
  have ca0 : V5.cell? ⟨q, 0, none⟩ = some (.int .i64 er) := (cell_of_row V5 (q) 0 _ _ (0, 0) hx5).trans rfl
  have fca0 : V5.frozen? ⟨q, 0, none⟩ = false := by simp [World.frozen?, hx5]
  have ca1 : V5.cell? ⟨q, 1, none⟩ = some (.slice A1 NU.length k1) := (cell_of_row V5 (q) 1 _ _ (0, 0) hx5).trans rfl
  have fca1 : V5.frozen? ⟨q, 1, none⟩ = false := by simp [World.frozen?, hx5]
  have ca2 : V5.cell? ⟨q, 2, none⟩ = some (.slice AD LD.length cD) := (cell_of_row V5 (q) 2 _ _ (0, 0) hx5).trans rfl
  have fca2 : V5.frozen? ⟨q, 2, none⟩ = false := by simp [World.frozen?, hx5]
  have ca3 : V5.cell? ⟨q, 3, none⟩ = some (.slice AR LR.length cR) := (cell_of_row V5 (q) 3 _ _ (0, 0) hx5).trans rfl
  have fca3 : V5.frozen? ⟨q, 3, none⟩ = false := by simp [World.frozen?, hx5]
  have cal : q < V5.heap.size := (Array.getElem?_eq_some_iff.1 hx5).1
  clear hx5 y6 hB5
  go_wp2_with fail
  refine HC1.out.mono ?_
  rintro e v6 ⟨⟨AP, cP, rfl, ownP⟩, hb6⟩
  obtain ⟨y6, u1, u2, u3, u4, u5, hB6⟩ := HT.out v6 hb6
  clear ca0 fca0 ca1 fca1 ca2 fca2 ca3 fca3 cal
  have HC2 := Lib.hid (same_any AO AP cO cP BO BO v6 (by have := HPK.out; unfold maxLen; omega) (by have := HPK.out; unfold maxLen; omega) u5 (Sl.of_own ownP))
  simp only [decide_true] at HC2
  have HB6 := Lib.hid hb6
  clear ownP HC1 u1 u2 u3 u4 u5 y6 hB6 hb6
  go_wp2_with (first | (go_at_call 9; refine HC2.out.mono ?_; rintro e v7 ⟨rfl, n7, rfl⟩; have hb7 := below_drewN HB6.out n7; obtain ⟨y6, u1, u2, u3, u4, u5, hB6⟩ := HT.out _ hb7; obtain ⟨x5, s1, s2, s3, s4, sb, hB⟩ := HV.out _ hB6; have HB7 := Lib.hid hb7; generalize v6.drewN n7 = v7 at *; have ca0 : v7.cell? ⟨q, 0, none⟩ = some (.int .i64 er) := (cell_of_row v7 q 0 _ _ (0, 0) x5).trans rfl; have d0 : v7.cell? ⟨b6, 0, none⟩ = some (.int .i64 er) := (cell_of_row v7 b6 0 _ _ (0, 0) y6).trans rfl; have ca1 : v7.cell? ⟨q, 1, none⟩ = some (.slice A1 NU.length k1) := (cell_of_row v7 q 1 _ _ (0, 0) x5).trans rfl; have d1 : v7.cell? ⟨b6, 1, none⟩ = some (.slice B1 NU.length j1) := (cell_of_row v7 b6 1 _ _ (0, 0) y6).trans rfl; have ca2 : v7.cell? ⟨q, 2, none⟩ = some (.slice AD LD.length cD) := (cell_of_row v7 q 2 _ _ (0, 0) x5).trans rfl; have d2 : v7.cell? ⟨b6, 2, none⟩ = some (.slice B2 LD.length j2) := (cell_of_row v7 b6 2 _ _ (0, 0) y6).trans rfl; have ca3 : v7.cell? ⟨q, 3, none⟩ = some (.slice AR LR.length cR) := (cell_of_row v7 q 3 _ _ (0, 0) x5).trans rfl; have d3 : v7.cell? ⟨b6, 3, none⟩ = some (.slice B3 RL.length j3) := (cell_of_row v7 b6 3 _ _ (0, 0) y6).trans rfl; have cal := (Array.getElem?_eq_some_iff.1 x5).1; have dl := (Array.getElem?_eq_some_iff.1 y6).1; clear hb7 x5 y6 u1 u2 u3 u4 u5 s1 s2 s3 s4 sb hB hB6) | fail)
  obtain ⟨y6, u1, u2, u3, u4, u5, hB6⟩ := HT.out v7 HB7.out
  obtain ⟨x5, s1, s2, s3, s4, sb, hB⟩ := HV.out v7 hB6
  have HC3 := Lib.hid (rsameR34 er B1 B2 B3 A1 AD AR j1 j2 j3 k1 cD cR NU LD RL LR v7 (by omega) (by have := HDL.out; omega) (by
    have h1 := congrArg List.length HRL2.out
    rw [List.length_map, List.length_map] at h1
    have := HRL.out; omega) HRL2.out (fun x hx => by
    have h1 : x.pl ∈ LR.map Rn.pl := by rw [← HRL2.out]; exact List.mem_map.2 ⟨x, hx, rfl⟩
    obtain ⟨y, hy, e⟩ := List.mem_map.1 h1
    have h2 := (HPI.out y hy).1
    have h3 : x.lots = y.lots := (congrArg Rtn.lots e).symm
    rw [h3]; omega) u1 s1 u2 s2 u3 s3 u4 s4)
  clear y6 u1 u2 u3 u4 u5 hB6 x5 s1 s2 s3 s4 sb hB HC2
  refine HC3.out.mono ?_
  rintro e v8 ⟨rfl, hb8⟩
  have hb8 := since_step HB7.out hb8
  obtain ⟨_, _, _, _, _, _, hB8⟩ := HT.out _ hb8
  obtain ⟨_, _, _, _, _, sb, hB⟩ := HV.out v8 hB8
  clear HC3 hb8
  -- the bytes
  have HDC := Lib.hid (decrep34 a1 c1 LB v8 (by omega) HLO.out sb)
  have HB8 := Lib.hid hB8
  clear sb hB hB8
  go_wp2_with fail
  refine HDC.out.mono ?_
  rintro e v9 ⟨hr9, hb9⟩
  have hb9 := since_step HB8.out hb9
  obtain ⟨X, s, hXs⟩ : ∃ X s, rdRep ⟨LB, 0⟩ = (X, s) := ⟨_, _, rfl⟩
  rw [hXs] at hr9
  obtain ⟨xe, xn, xd, xr⟩ := X
  clear HDC
  by_cases hok : okR s = true
  · simp only [hok] at hr9
    obtain ⟨D1, l1, D2, l2, D3, l3, RM, rfl, hRM, t1, t2, t3, t4⟩ := rres_ok hr9
    simp only at hRM t1 t2
    have hend := endF_err (s := s) (by unfold okR at hok; simpa using hok)
    have hback := canRep.back ⟨LB, 0⟩ HLO.out rfl (by rw [hXs]; exact hend.1)
    rw [hXs] at hback
    obtain ⟨hLBe, hokq, _⟩ := hback
    simp only [hend.2, List.append_nil] at hLBe
    have hrep : packL (repL xe xn xd RM) = LB := by rw [repL_Q, hRM]; exact hLBe.symm
    have hlen : (repL xe xn xd RM).length ≤ 400 := by
      have := packL_ge (repL xe xn xd RM)
      rw [hrep] at this
      omega
    have hflat : ∀ {α : Type} (f : α → List Int) (l : List α), (∀ x, 0 < (f x).length) → l.length ≤ (l.flatMap f).length := fun f l hf => by
      induction l with
      | nil => simp
      | cons a l ih => rw [List.flatMap_cons, List.length_append, List.length_cons]; have := hf a; omega
    have hl3 := hflat Db.nums xd (fun x => by simp [Db.nums])
    have hl4 := hflat Rn.nums RM (fun x => by simp [Rn.nums, rnums])
    have hll : xn.length ≤ 400 ∧ xd.length ≤ 400 ∧ RM.length ≤ 400 := by
      unfold repL at hlen
      simp only [List.length_cons, List.length_append] at hlen
      omega
    have hin : ∀ x ∈ RM, x.pl.in64 := fun x hx => hokq.2.2.2.2 x.pl (by show x.pl ∈ xr; rw [← hRM]; exact List.mem_map.2 ⟨x, hx, rfl⟩)
    have HI : Hid (In64p xe ∧ (∀ x ∈ xn, In64p x) ∧ (∀ x ∈ xd, x.in64) ∧ ∀ x ∈ RM, x.pl.in64) := Lib.hid ⟨hokq.1, hokq.2.1.2, hokq.2.2.1.2, hin⟩
    have HLL := Lib.hid hll
    have HREP := Lib.hid hrep
    have hal := since_alloc (Below.refl _ v9) (.cells #[.int .i64 xe, .slice D1 xn.length l1, .slice D2 xd.length l2, .slice D3 RM.length l3] 50)
    have hx8 := heap_alloc_new v9 (.cells #[.int .i64 xe, .slice D1 xn.length l1, .slice D2 xd.length l2, .slice D3 RM.length l3] 50)
    have hsb := (HV.out v9 hb9).2.2.2.2.2.1
    obtain ⟨b8, hb8⟩ : ∃ b8, v9.heap.size = b8 := ⟨_, rfl⟩
    obtain ⟨V10, hV10⟩ : ∃ V10, v9.alloc (.cells #[.int .i64 xe, .slice D1 xn.length l1, .slice D2 xd.length l2, .slice D3 RM.length l3] 50) = V10 := ⟨_, rfl⟩
    have HB8E := Lib.hid hb8
    have HV10E := Lib.hid hV10
    have HRE2 := Lib.hid (rencrep34 xe D1 D2 D3 l1 l2 l3 xn xd RM (v9.alloc (.cells #[.int .i64 xe, .slice D1 xn.length l1, .slice D2 xd.length l2, .slice D3 RM.length l3] 50)) HI.out.1 (by have := HLL.out; omega) HI.out.2.1 (t1.below hal) (by have := HLL.out; omega) HI.out.2.2.1 (t2.below hal) (by have := HLL.out; omega) (fun x hx => ⟨HI.out.2.2.2 x hx, (t4 x hx).below hal⟩) (t3.below hal) (by rw [HREP.out]; omega))
    have hB10 := since_step hb9 hal
    rw [HREP.out] at HRE2
    rw [hb8] at hx8
    rw [hV10] at HRE2 hx8 hB10
    have hsb := hsb.below hal
    rw [hV10] at hsb
    have HSB := Lib.hid hsb
    have HB10 := Lib.hid hB10
    clear hal hb8 hV10 t1 t2 t3 t4 hRM hend hLBe hokq hrep hlen hflat hl3 hl4 hll hin hr9 hXs hok hsb hB10 hb9
    go_upto_region 9 with fail
    rw [HV10E.out, HB8E.out]
    have ca0 : V10.cell? ⟨b8, 0, none⟩ = some (.int .i64 xe) := (cell_of_row V10 (b8) 0 _ _ (0, 0) hx8).trans rfl
    have fca0 : V10.frozen? ⟨b8, 0, none⟩ = false := by simp [World.frozen?, hx8]
    have ca1 : V10.cell? ⟨b8, 1, none⟩ = some (.slice D1 xn.length l1) := (cell_of_row V10 (b8) 1 _ _ (0, 0) hx8).trans rfl
    have fca1 : V10.frozen? ⟨b8, 1, none⟩ = false := by simp [World.frozen?, hx8]
    have ca2 : V10.cell? ⟨b8, 2, none⟩ = some (.slice D2 xd.length l2) := (cell_of_row V10 (b8) 2 _ _ (0, 0) hx8).trans rfl
    have fca2 : V10.frozen? ⟨b8, 2, none⟩ = false := by simp [World.frozen?, hx8]
    have ca3 : V10.cell? ⟨b8, 3, none⟩ = some (.slice D3 RM.length l3) := (cell_of_row V10 (b8) 3 _ _ (0, 0) hx8).trans rfl
    have fca3 : V10.frozen? ⟨b8, 3, none⟩ = false := by simp [World.frozen?, hx8]
    have cal : b8 < V10.heap.size := (Array.getElem?_eq_some_iff.1 hx8).1
    clear hx8
    go_wp2_with fail
    refine HRE2.out.mono ?_
    rintro e v11 ⟨⟨AQ, cQ, rfl, ownQ⟩, hb11⟩
    have HC2 := Lib.hid (same_any AQ a1 cQ c1 LB LB v11 (by unfold maxLen; omega) (by unfold maxLen; omega) (Sl.of_own ownQ) (HSB.out.below hb11))
    simp only [decide_true] at HC2
    have HB11 := Lib.hid (since_step HB10.out hb11)
    clear ca0 fca0 ca1 fca1 ca2 fca2 ca3 fca3 cal
    clear ownQ hb11 HRE2
    go_wp2_with fail
    refine HC2.out.mono ?_
    rintro e v12 ⟨rfl, n12, rfl⟩
    have hb12 := below_drewN HB11.out n12
    have HB12 := Lib.hid hb12
    clear hb12 HC2
    go_wp2_with fail
    refine (HLV.out _).mono ?_
    rintro e v13 ⟨rfl, hb13⟩
    have hB13 := (HV.out _ (since_step HB12.out hb13)).2.2.2.2.2.2
    go_wp2_with fail
    go_ret
    exact ⟨rfl, hB13⟩
  · have hok : okR s = false := by simpa using hok
    simp only [hok] at hr9
    have hz := rres_no hr9
    subst hz
    have hal := since_alloc (Below.refl _ v9) (.cells #[.int .i64 0, .slice none 0 0, .slice none 0 0, .slice none 0 0] 50)
    have hx8 := heap_alloc_new v9 (.cells #[.int .i64 0, .slice none 0 0, .slice none 0 0, .slice none 0 0] 50)
    obtain ⟨b8, hb8⟩ : ∃ b8, v9.heap.size = b8 := ⟨_, rfl⟩
    obtain ⟨V10, hV10⟩ : ∃ V10, v9.alloc (.cells #[.int .i64 0, .slice none 0 0, .slice none 0 0, .slice none 0 0] 50) = V10 := ⟨_, rfl⟩
    have HB8E := Lib.hid hb8
    have HV10E := Lib.hid hV10
    have hB10 := since_step hb9 hal
    rw [hb8] at hx8
    rw [hV10] at hx8 hB10
    have HB10 := Lib.hid hB10
    clear hal hb8 hV10 hr9 hXs hok hB10 hb9
    have HSM := Lib.hid (rsameR34 0 none none none none none none 0 0 0 0 0 0 [] [] [] [] V10 (by simp) (by simp) (by simp) rfl (fun x hx => by cases hx) Sl.nil Sl.nil Sl.nil Sl.nil Sl.nil Sl.nil (fun x hx => by cases hx) (fun x hx => by cases hx))
    go_upto_region 8 with fail
    rw [HV10E.out, HB8E.out]
    have ca0 : V10.cell? ⟨b8, 0, none⟩ = some (.int .i64 0) := (cell_of_row V10 (b8) 0 _ _ (0, 0) hx8).trans rfl
    have fca0 : V10.frozen? ⟨b8, 0, none⟩ = false := by simp [World.frozen?, hx8]
    have ca1 : V10.cell? ⟨b8, 1, none⟩ = some (.slice none 0 0) := (cell_of_row V10 (b8) 1 _ _ (0, 0) hx8).trans rfl
    have fca1 : V10.frozen? ⟨b8, 1, none⟩ = false := by simp [World.frozen?, hx8]
    have ca2 : V10.cell? ⟨b8, 2, none⟩ = some (.slice none 0 0) := (cell_of_row V10 (b8) 2 _ _ (0, 0) hx8).trans rfl
    have fca2 : V10.frozen? ⟨b8, 2, none⟩ = false := by simp [World.frozen?, hx8]
    have ca3 : V10.cell? ⟨b8, 3, none⟩ = some (.slice none 0 0) := (cell_of_row V10 (b8) 3 _ _ (0, 0) hx8).trans rfl
    have fca3 : V10.frozen? ⟨b8, 3, none⟩ = false := by simp [World.frozen?, hx8]
    have cal : b8 < V10.heap.size := (Array.getElem?_eq_some_iff.1 hx8).1
    clear hx8
    go_wp2_with fail
    refine HSM.out.mono ?_
    rintro e v11 ⟨rfl, hb11⟩
    have HB11 := Lib.hid (since_step HB10.out hb11)
    clear ca0 fca0 ca1 fca1 ca2 fca2 ca3 fca3 cal
    clear hb11 HSM
    go_wp2_with fail
    refine (HLV.out _).mono ?_
    rintro e v13 ⟨rfl, hb13⟩
    have hB13 := (HV.out _ (since_step HB11.out hb13)).2.2.2.2.2.2
    go_wp2_with fail
    go_ret
    exact ⟨rfl, hB13⟩
end Go.Proofs.Ytpmnjojednbnpaa
end
