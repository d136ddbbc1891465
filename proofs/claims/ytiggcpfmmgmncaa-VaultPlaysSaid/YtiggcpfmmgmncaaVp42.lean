import Derived.Test.YtiggcpfmmgmncaaVp03
import Derived.Test.YtiggcpfmmgmncaaVp41
set_option maxHeartbeats 16000000
set_option maxRecDepth 100000
set_option linter.unusedVariables false
set_option linter.unusedSimpArgs false
namespace Go.Proofs.Ytiggcpfmmgmncaa
open Go.ChangeShapes Go.WideShapes Go.ChangeAt Go.RowKit
section
theorem vleft_any {B b g kc v h s c k : Nat} {K A SA : Option Addr} {d : Dv} {R : List (RowS Nat)} {x : Vv} (w : World) (hd : DrA B w b g K kc d) (hv : VaA B w v h s b A c R SA k x) :
    Calls Try.prog 47 #[.pointer (some ⟨v, 0, none⟩)] w fun e w' => e = .returned (.int .i64 ((d.S.length : Int) - 2 * x.each - x.sc.used)) ∧ Below w.heap.size w w' := by
  have HSZ := Lib.hid (fun V (hV : Below w.heap.size w V) => dsize_eq V (hd.below hV))
  have HUS := Lib.hid (fun V (hV : Below w.heap.size w V) => sused_any V (hv.below hV).sc)
  have HFT := Lib.hid (vfit_eq w hv)
  have HVA := Lib.hid hv
  have hsm := hd.len
  have hse := hv.small.1
  have hsu := hv.sc.small.2.2.1
  obtain ⟨n, hn⟩ : ∃ n, d.S.length = n := ⟨_, rfl⟩
  obtain ⟨u, hu⟩ : ∃ u, x.sc.used = u := ⟨_, rfl⟩
  rw [hn] at hsm HSZ ⊢
  rw [hu] at hsu HUS ⊢
  obtain ⟨m1, hm1⟩ : ∃ m1 : Int, (n : Int) - 2 * x.each = m1 := ⟨_, rfl⟩
  obtain ⟨m2, hm2⟩ : ∃ m2 : Int, m1 - (u : Int) = m2 := ⟨_, rfl⟩
  obtain ⟨e2, he2⟩ : ∃ e2 : Int, 2 * (x.each : Int) = e2 := ⟨_, rfl⟩
  have w1 : IntKind.i64.wrap (2 * (x.each : Int)) = e2 := by rw [IntKind.wrap_i64]; omega
  have w2 : IntKind.i64.wrap ((n : Int) - e2) = m1 := by rw [IntKind.wrap_i64]; omega
  have w3 : IntKind.i64.wrap (m1 - (u : Int)) = m2 := by rw [IntKind.wrap_i64]; omega
  have HM : Hid ((n : Int) - 2 * x.each - u = m2) := Lib.hid (by omega)
  obtain ⟨pv, pvs, p0, p1, p2, p3, p4, p5, p6, phs⟩ := hv.got
  clear hd hv hsm hse hsu hn hu hm1 hm2 he2
  go_enter Try.func47, Try.ntmps47
  go_wp2_with fail
  refine HFT.out.mono ?_
  rintro e v1 ⟨rfl, rfl⟩
  go_wp2_with fail
  clear pv pvs p0 p1 p2 p3 p4 p5 p6 phs
  refine wp_region_held_drew (S := (fun V => Below v1.heap.size v1 V)) (by kernel_rfl) (by exact (Below.refl _ _).drew) (fun hHeld => ?_)
  refine tkJ 0 6 rfl (by intro w; go_simp <;> with_reducible rfl) hHeld ?_; simp only [pqZ]
  refine tkJ 1 7 rfl (by intro w; go_simp <;> with_reducible rfl) hHeld ?_; simp only [pqZ]
  refine tkJ 2 8 rfl (by intro w; go_simp <;> with_reducible rfl) hHeld ?_; simp only [pqZ]
  refine tkI 3 9 rfl (by intro w hSw; obtain ⟨pv, pvs, p0, p1, p2, p3, p4, p5, p6, phs⟩ := (HVA.out.below (hSw)).got; go_simp <;> with_reducible rfl) hHeld ?_; simp only [pqZ]
  refine tkJ 4 10 rfl (by intro w; go_simp <;> with_reducible rfl) hHeld ?_; simp only [pqZ]
  refine tkJ 5 11 rfl (by intro w; go_simp <;> with_reducible rfl) hHeld ?_; simp only [pqZ]
  refine tkI 6 12 rfl (by intro w hSw; obtain ⟨pv, pvs, p0, p1, p2, p3, p4, p5, p6, phs⟩ := (HVA.out.below (hSw)).got; go_simp <;> with_reducible rfl) hHeld ?_; simp only [pqZ]
  refine tkJ 8 14 rfl (by intro w; go_simp <;> with_reducible rfl) hHeld ?_; simp only [pqZ]
  refine tkJ 9 15 rfl (by intro w; go_simp <;> with_reducible rfl) hHeld ?_; simp only [pqZ]
  refine tkJ 10 16 rfl (by intro w; go_simp <;> with_reducible rfl) hHeld ?_; simp only [pqZ]
  refine tkI 11 17 rfl (by intro w hSw; obtain ⟨pv, pvs, p0, p1, p2, p3, p4, p5, p6, phs⟩ := (HVA.out.below (hSw)).got; go_simp <;> with_reducible rfl) hHeld ?_; simp only [pqZ]
  refine tkJ 12 18 rfl (by intro w; go_simp <;> with_reducible rfl) hHeld ?_; simp only [pqZ]
  refine tkJ 13 19 rfl (by intro w; go_simp <;> with_reducible rfl) hHeld ?_; simp only [pqZ]
  refine tkI 14 20 rfl (by intro w hSw; obtain ⟨pv, pvs, p0, p1, p2, p3, p4, p5, p6, phs⟩ := (HVA.out.below (hSw)).got; go_simp <;> with_reducible rfl) hHeld ?_; simp only [pqZ]
  refine tkJ 15 21 rfl (by intro w; go_simp <;> with_reducible rfl) hHeld ?_; simp only [pqZ]
  refine tkJ 17 23 rfl (by intro w; go_simp <;> with_reducible rfl) hHeld ?_; simp only [pqZ]
  refine tkJ 18 24 rfl (by intro w; go_simp <;> with_reducible rfl) hHeld ?_; simp only [pqZ]
  refine tkJ 19 25 rfl (by intro w; go_simp <;> with_reducible rfl) hHeld ?_; simp only [pqZ]
  refine tkI 20 26 rfl (by intro w hSw; obtain ⟨pv, pvs, p0, p1, p2, p3, p4, p5, p6, phs⟩ := (HVA.out.below (hSw)).got; go_simp <;> with_reducible rfl) hHeld ?_; simp only [pqZ]
  refine tkJ 21 27 rfl (by intro w; go_simp <;> with_reducible rfl) hHeld ?_; simp only [pqZ]
  refine tkJ 22 28 rfl (by intro w; go_simp <;> with_reducible rfl) hHeld ?_; simp only [pqZ]
  refine tkI 23 29 rfl (by intro w hSw; obtain ⟨pv, pvs, p0, p1, p2, p3, p4, p5, p6, phs⟩ := (HVA.out.below (hSw)).got; go_simp <;> with_reducible rfl) hHeld ?_; simp only [pqZ]
  refine rdZ 7 13 rfl (by kernel_rfl) (fun K hK => ?_)
  go_simp
  refine (HSZ.out _ hHeld).mono ?_
  rintro e x1 ⟨rfl, rfl⟩
  have hKeep := hHeld
  go_wp2_with fail
  refine hK.out _ _ (by (try dsimp only); exact hKeep) (fun hHeld => ?_); clear hK K hKeep; try simp only [pqZ]
  refine tkJ 16 22 rfl (by intro w; go_simp <;> with_reducible rfl) hHeld ?_; simp only [pqZ]
  refine rdZ 24 30 rfl (by kernel_rfl) (fun K hK => ?_)
  go_simp
  refine (HUS.out _ hHeld).mono ?_
  rintro e x2 ⟨rfl, hb2⟩
  have hKeep := since_step hHeld hb2
  clear hb2
  go_wp2_with fail
  refine hK.out _ _ (by (try dsimp only); exact hKeep) (fun hHeld => ?_); clear hK K hKeep; try simp only [pqZ]
  refine tkJ 25 31 rfl (by intro w; go_simp <;> with_reducible rfl) hHeld ?_; simp only [pqZ]
  refine tkJ 26 2 rfl (by intro w; go_simp <;> with_reducible rfl) hHeld ?_; simp only [pqZ]
  refine wpAnyH_done (by kernel_rfl) ?_ _
  go_wp2_with fail
  go_ret
  rw [HM.out]
  exact ⟨rfl, hHeld⟩
theorem same10_any {B b g v b2 v2 e k : Nat} {d : Dv} {x : Vv} {X : Rv} (w : World) (T : TwoV B w b g v b2 v2 d x X x) (hP : VP d x X e k) (hk : k ≤ 1000) :
    Calls Try.prog 43 #[.pointer (some ⟨v, 0, none⟩), .pointer (some ⟨v2, 0, none⟩)] w fun e w' => e = .returned (.bool true) ∧ Below w.heap.size w w' := by
  obtain ⟨h, s, K, kc, A, c, R, SA, sk, s2, A2, c2, R2, KA, kc2, A3, c3, R3, SA2, k2, T⟩ := T
  have hst : (if x.era = 0 then [] else x.state) = x.state := by
    split
    · rename_i h0; exact (hP.st0 h0).symm
    · rfl
  have HST := Lib.hid (vstate_any w T.va)
  rw [hst] at HST
  have hsl := hP.stl
  have hn := hP.n
  have hCl : X.C.length = d.S.length := by rw [hP.C]
  have hER := hP.era
  have hsm := T.va.small
  have hsu := T.va.sc.small.2.2.1
  have hdl := T.dr.len
  have hR3l : R3.length = x.sc.L.length := by rw [← T.rs.map, List.length_map]
  have hlens := hP.lens
  have HER := Lib.hid (fun V (hV : Below w.heap.size w V) => vera_eq V (T.va.below hV))
  have HRC := Lib.hid (fun V (hV : Below w.heap.size w V) => vrecords_any V (T.va.below hV) (fun r hr => by
    have := hlens r.l (by rw [← T.va.sc.map]; exact List.mem_map.2 ⟨r, hr, rfl⟩)
    omega))
  have HRS := Lib.hid (fun V (A5 : Option Addr) (c5 : Nat) (S5 : List (RowS Nat)) (hV : Below w.heap.size w V) (base : Nat) (own5 : V.ownsRow base 36 1 (.slice A5 S5.length c5) S5.length (rc RowS.cells S5)) (map5 : S5.map RowS.l = x.sc.L) (or5 : OwnR base V S5) =>
    rsame8_any A5 A3 c5 c3 S5 R3 V (by rw [← List.length_map (f := RowS.l), map5]; omega) (by omega) (Sl.of_own own5) (Sl.of_own (T.rs.below hV).own)
      (fun r hr => ⟨Sl.of_own (or5 r hr), by have := hlens r.l (by rw [← map5]; exact List.mem_map.2 ⟨r, hr, rfl⟩); omega⟩)
      (fun r hr => ⟨((T.below hV).rows r hr).1, by have := hlens r.l (by rw [← T.rs.map]; exact List.mem_map.2 ⟨r, hr, rfl⟩); omega⟩))
  have HRS : Hid (∀ V (A5 : Option Addr) (c5 : Nat) (S5 : List (RowS Nat)) (hV : Below w.heap.size w V) (base : Nat) (own5 : V.ownsRow base 36 1 (.slice A5 S5.length c5) S5.length (rc RowS.cells S5)) (map5 : S5.map RowS.l = x.sc.L) (or5 : OwnR base V S5), Calls Try.prog 26 #[.slice A5 S5.length c5, .slice A3 R3.length c3] V fun e w' => e = .returned (.bool true) ∧ Below V.heap.size V w') := Lib.hid (fun V A5 c5 S5 hV base own5 map5 or5 => by
    have h9 := HRS.out V A5 c5 S5 hV base own5 map5 or5
    rw [map5, T.rs.map, decide_eq_true rfl] at h9
    exact h9)
  have HLF := Lib.hid (fun V (hV : Below w.heap.size w V) => vleft_any V (T.dr.below hV) (T.va.below hV))
  have HDC := Lib.hid (fun V (hV : Below w.heap.size w V) => (show V.cell? ⟨v2, 0, none⟩ = some (.pointer (some ⟨b2, 0, none⟩)) ∧ V.cell? ⟨v2, 1, none⟩ = some (.int .i64 x.each) ∧ V.cell? ⟨v2, 3, none⟩ = some (.int .i64 x.era) ∧ V.cell? ⟨v2, 4, none⟩ = some (.slice SA2 x.state.length k2) ∧ V.cell? ⟨v2, 5, none⟩ = some (.pointer (some ⟨s2, 0, none⟩)) ∧ V.cell? ⟨s2, 5, none⟩ = some (.slice A3 R3.length c3) ∧ V.cell? ⟨s2, 6, none⟩ = some (.int .i64 x.sc.used) ∧ V.cell? ⟨b2, 0, none⟩ = some (.slice A2 X.C.length c2) ∧ v2 < V.heap.size ∧ s2 < V.heap.size ∧ b2 < V.heap.size from by
    have T' := T.below hV
    obtain ⟨z0, z1, z2, z3, z4, z5, z6, z7, zs⟩ := T'.rs.got
    exact ⟨(box_cells' T'.bx 0).1, (box_cells' T'.bx 1).1, (box_cells' T'.bx 3).1, (box_cells' T'.bx 4).1, (box_cells' T'.bx 5).1, by rw [hR3l]; exact z5, z6, T'.rv.got.1, (box_cells' T'.bx 0).2.2, zs, T'.rv.lt⟩))
  have HSS := Lib.hid (fun V (hV : Below w.heap.size w V) => (T.below hV).st.1)
  obtain ⟨qe, hq1, hq2⟩ : ∃ qe : Bool, (!decide (x.era = 0)) = qe ∧ decide (0 < x.era) = qe := ⟨_, rfl, by
    by_cases h0 : x.era = 0
    · rw [decide_eq_true h0, decide_eq_false (by omega)]; rfl
    · rw [decide_eq_false h0, decide_eq_true (by omega)]; rfl⟩
  rw [hq1] at HST
  rw [hCl] at HDC
  obtain ⟨n, hn⟩ : ∃ n, d.S.length = n := ⟨_, rfl⟩
  obtain ⟨u, hu⟩ : ∃ u, x.sc.used = u := ⟨_, rfl⟩
  rw [hn] at hdl HLF HDC
  rw [hu] at hsu HLF HDC
  obtain ⟨m1, hm1⟩ : ∃ m1 : Int, (n : Int) - 2 * x.each = m1 := ⟨_, rfl⟩
  obtain ⟨m2, hm2⟩ : ∃ m2 : Int, m1 - (u : Int) = m2 := ⟨_, rfl⟩
  rw [hm1, hm2] at HLF
  obtain ⟨e2, he2⟩ : ∃ e2 : Int, 2 * (x.each : Int) = e2 := ⟨_, rfl⟩
  have w1 : IntKind.i64.wrap (2 * (x.each : Int)) = e2 := by rw [IntKind.wrap_i64]; omega
  have w2 : IntKind.i64.wrap ((n : Int) - e2) = m1 := by rw [IntKind.wrap_i64]; omega
  have w3 : IntKind.i64.wrap (m1 - (u : Int)) = m2 := by rw [IntKind.wrap_i64]; omega
  have HSTL : Hid (x.state.length ≤ maxLen) := Lib.hid (by unfold maxLen; omega)
  generalize x.state = st at *
  clear T hst hsl hCl hER hsm hsu hdl hR3l hlens hP hk hq1 hn hu hm1 hm2 he2
  go_enter Try.func43, Try.ntmps43
  go_wp2_with fail
  refine HST.out.mono ?_
  rintro e w1 ⟨⟨A1, c1, rfl, own1⟩, hb1⟩
  have HSM := Lib.hid (fun V (hV : Below w1.heap.size w1 V) => same_any A1 SA2 c1 k2 st st V HSTL.out HSTL.out ((Sl.of_own own1).below hV) (HSS.out _ (since_step hb1 hV)))
  rw [decide_eq_true rfl] at HSM
  have HER := Lib.hid (fun V (hV : Below w1.heap.size w1 V) => HER.out V (since_step hb1 hV))
  have HRC := Lib.hid (fun V (hV : Below w1.heap.size w1 V) => HRC.out V (since_step hb1 hV))
  have HRS := Lib.hid (fun V A5 c5 S5 (hV : Below w1.heap.size w1 V) {base : Nat} => HRS.out V A5 c5 S5 (since_step hb1 hV) base)
  have HLF := Lib.hid (fun V (hV : Below w1.heap.size w1 V) => HLF.out V (since_step hb1 hV))
  have HDC := Lib.hid (fun V (hV : Below w1.heap.size w1 V) => HDC.out V (since_step hb1 hV))
  have HB1 := Lib.hid hb1
  clear own1 hb1
  go_wp2_with fail
  refine wp_region_held_drew (S := (fun V => Below w1.heap.size w1 V)) (by kernel_rfl) (by exact (Below.refl _ _).drew) (fun hHeld => ?_)
  refine tkJ 0 12 rfl (by intro w; go_simp <;> with_reducible rfl) hHeld ?_; simp only [pqZ]
  refine tkJ 1 13 rfl (by intro w; go_simp <;> with_reducible rfl) hHeld ?_; simp only [pqZ]
  refine tkJ 2 14 rfl (by intro w; go_simp <;> with_reducible rfl) hHeld ?_; simp only [pqZ]
  refine tkJ 3 15 rfl (by intro w; go_simp <;> with_reducible rfl) hHeld ?_; simp only [pqZ]
  refine tkI 4 16 rfl (by intro w hSw; obtain ⟨q0, q1, q3, q4, q5, t5, t6, u0, qs, ts, us⟩ := HDC.out _ (hSw); go_simp <;> with_reducible rfl) hHeld ?_; simp only [pqZ]
  refine rdZ 5 17 rfl (by kernel_rfl) (fun K hK => ?_)
  go_simp
  refine (HSM.out _ hHeld).mono ?_
  rintro e y1 ⟨rfl, nn, hy1⟩
  have hKeep : Below w1.heap.size w1 y1 := by rw [hy1]; exact below_drewN hHeld nn
  clear hy1
  go_wp2_with fail
  refine hK.out _ _ (by (try dsimp only); exact hKeep) (fun hHeld => ?_); clear hK K hKeep; try simp only [pqZ]
  refine tkJ 6 18 rfl (by intro w; go_simp <;> with_reducible rfl) hHeld ?_; simp only [pqZ]
  refine tkJ 7 19 rfl (by intro w; go_simp <;> with_reducible rfl) hHeld ?_; simp only [pqZ]
  refine tkJ 8 20 rfl (by intro w; go_simp <;> with_reducible rfl) hHeld ?_; simp only [pqZ]
  refine tkJ 9 21 rfl (by intro w; go_simp <;> with_reducible rfl) hHeld ?_; simp only [pqZ]
  refine tkJ 10 22 rfl (by intro w; go_simp <;> with_reducible rfl) hHeld ?_; simp only [pqZ]
  refine tkI 11 23 rfl (by intro w hSw; obtain ⟨q0, q1, q3, q4, q5, t5, t6, u0, qs, ts, us⟩ := HDC.out _ (hSw); go_simp <;> with_reducible rfl) hHeld ?_; simp only [pqZ]
  refine tkJ 12 24 rfl (by intro w; go_simp <;> with_reducible rfl) hHeld ?_; simp only [pqZ]
  refine tkJ 13 25 rfl (by intro w; go_simp <;> with_reducible rfl) hHeld ?_; simp only [pqZ]
  refine tkJ 14 26 rfl (by intro w; go_simp <;> with_reducible rfl) hHeld ?_; simp only [pqZ]
  refine tkJ 15 27 rfl (by intro w; go_simp <;> with_reducible rfl) hHeld ?_; simp only [pqZ]
  refine tkJ 16 28 rfl (by intro w; go_simp <;> with_reducible rfl) hHeld ?_; simp only [pqZ]
  refine tkJ 18 30 rfl (by intro w; go_simp <;> with_reducible rfl) hHeld ?_; simp only [pqZ]
  refine tkJ 19 31 rfl (by intro w; go_simp <;> with_reducible rfl) hHeld ?_; simp only [pqZ]
  refine tkJ 20 32 rfl (by intro w; go_simp <;> with_reducible rfl) hHeld ?_; simp only [pqZ]
  refine tkI 21 33 rfl (by intro w hSw; obtain ⟨q0, q1, q3, q4, q5, t5, t6, u0, qs, ts, us⟩ := HDC.out _ (hSw); go_simp <;> with_reducible rfl) hHeld ?_; simp only [pqZ]
  refine rdZ 17 29 rfl (by kernel_rfl) (fun K hK => ?_)
  go_simp
  refine (HER.out _ hHeld).mono ?_
  rintro e y2 ⟨rfl, rfl⟩
  have hKeep := hHeld
  go_wp2_with fail
  refine hK.out _ _ (by (try dsimp only); exact hKeep) (fun hHeld => ?_); clear hK K hKeep; try simp only [pqZ]
  refine tkJ 22 34 rfl (by intro w; go_simp <;> with_reducible rfl) hHeld ?_; simp only [pqZ]
  refine tkJ 23 35 rfl (by intro w; go_simp <;> with_reducible rfl) hHeld ?_; simp only [pqZ]
  refine tkJ 24 36 rfl (by intro w; go_simp <;> with_reducible rfl) hHeld ?_; simp only [pqZ]
  refine tkJ 25 37 rfl (by intro w; go_simp <;> with_reducible rfl) hHeld ?_; simp only [pqZ]
  refine tkJ 27 39 rfl (by intro w; go_simp <;> with_reducible rfl) hHeld ?_; simp only [pqZ]
  refine tkJ 28 40 rfl (by intro w; go_simp <;> with_reducible rfl) hHeld ?_; simp only [pqZ]
  refine tkJ 29 41 rfl (by intro w; go_simp <;> with_reducible rfl) hHeld ?_; simp only [pqZ]
  refine tkI 30 42 rfl (by intro w hSw; obtain ⟨q0, q1, q3, q4, q5, t5, t6, u0, qs, ts, us⟩ := HDC.out _ (hSw); go_simp <;> with_reducible rfl) hHeld ?_; simp only [pqZ]
  refine tkJ 31 43 rfl (by intro w; go_simp <;> with_reducible rfl) hHeld ?_; simp only [pqZ]
  refine tkJ 32 44 rfl (by intro w; go_simp <;> with_reducible rfl) hHeld ?_; simp only [pqZ]
  refine tkI 33 45 rfl (by intro w hSw; obtain ⟨q0, q1, q3, q4, q5, t5, t6, u0, qs, ts, us⟩ := HDC.out _ (hSw); go_simp <;> with_reducible rfl) hHeld ?_; simp only [pqZ]
  refine rdZ 26 38 rfl (by kernel_rfl) (fun K hK => ?_)
  go_simp
  refine (HRC.out _ hHeld).mono ?_
  rintro e y3 ⟨⟨A5, c5, S5, rfl, own5, map5, or5⟩, hb5⟩
  have hKeep := since_step hHeld hb5
  have hSR := HRS.out _ A5 c5 S5 hKeep own5 map5 or5
  have HSR := Lib.hid hSR
  clear own5 map5 or5 hb5 hSR
  go_wp2_with fail
  refine hK.out _ _ (by (try dsimp only); exact hKeep) (fun hHeld => ?_); clear hK K hKeep; try simp only [pqZ]
  refine rdZ 34 46 rfl (by kernel_rfl) (fun K hK => ?_)
  go_simp
  refine HSR.out.mono ?_
  rintro e y4 ⟨rfl, hb6⟩
  have hKeep := since_step hHeld hb6
  clear hb6 HSR
  go_wp2_with fail
  refine hK.out _ _ (by (try dsimp only); exact hKeep) (fun hHeld => ?_); clear hK K hKeep; try simp only [pqZ]
  refine tkJ 35 47 rfl (by intro w; go_simp <;> with_reducible rfl) hHeld ?_; simp only [pqZ]
  refine tkJ 36 48 rfl (by intro w; go_simp <;> with_reducible rfl) hHeld ?_; simp only [pqZ]
  refine tkJ 37 49 rfl (by intro w; go_simp <;> with_reducible rfl) hHeld ?_; simp only [pqZ]
  refine tkJ 39 51 rfl (by intro w; go_simp <;> with_reducible rfl) hHeld ?_; simp only [pqZ]
  refine tkJ 40 52 rfl (by intro w; go_simp <;> with_reducible rfl) hHeld ?_; simp only [pqZ]
  refine tkJ 41 53 rfl (by intro w; go_simp <;> with_reducible rfl) hHeld ?_; simp only [pqZ]
  refine tkI 42 54 rfl (by intro w hSw; obtain ⟨q0, q1, q3, q4, q5, t5, t6, u0, qs, ts, us⟩ := HDC.out _ (hSw); go_simp <;> with_reducible rfl) hHeld ?_; simp only [pqZ]
  refine tkJ 43 55 rfl (by intro w; go_simp <;> with_reducible rfl) hHeld ?_; simp only [pqZ]
  refine tkJ 44 56 rfl (by intro w; go_simp <;> with_reducible rfl) hHeld ?_; simp only [pqZ]
  refine tkI 45 57 rfl (by intro w hSw; obtain ⟨q0, q1, q3, q4, q5, t5, t6, u0, qs, ts, us⟩ := HDC.out _ (hSw); go_simp <;> with_reducible rfl) hHeld ?_; simp only [pqZ]
  refine tkJ 46 58 rfl (by intro w; go_simp <;> with_reducible rfl) hHeld ?_; simp only [pqZ]
  refine tkJ 47 59 rfl (by intro w; go_simp <;> with_reducible rfl) hHeld ?_; simp only [pqZ]
  refine tkJ 48 60 rfl (by intro w; go_simp <;> with_reducible rfl) hHeld ?_; simp only [pqZ]
  refine tkJ 49 61 rfl (by intro w; go_simp <;> with_reducible rfl) hHeld ?_; simp only [pqZ]
  refine tkI 50 62 rfl (by intro w hSw; obtain ⟨q0, q1, q3, q4, q5, t5, t6, u0, qs, ts, us⟩ := HDC.out _ (hSw); go_simp <;> with_reducible rfl) hHeld ?_; simp only [pqZ]
  refine tkJ 51 63 rfl (by intro w; go_simp <;> with_reducible rfl) hHeld ?_; simp only [pqZ]
  refine tkJ 52 64 rfl (by intro w; go_simp <;> with_reducible rfl) hHeld ?_; simp only [pqZ]
  refine tkJ 53 65 rfl (by intro w; go_simp <;> with_reducible rfl) hHeld ?_; simp only [pqZ]
  refine tkJ 54 66 rfl (by intro w; go_simp <;> with_reducible rfl) hHeld ?_; simp only [pqZ]
  refine tkJ 55 67 rfl (by intro w; go_simp <;> with_reducible rfl) hHeld ?_; simp only [pqZ]
  refine tkI 56 68 rfl (by intro w hSw; obtain ⟨q0, q1, q3, q4, q5, t5, t6, u0, qs, ts, us⟩ := HDC.out _ (hSw); go_simp <;> with_reducible rfl) hHeld ?_; simp only [pqZ]
  refine tkJ 57 69 rfl (by intro w; go_simp <;> with_reducible rfl) hHeld ?_; simp only [pqZ]
  refine tkJ 58 70 rfl (by intro w; go_simp <;> with_reducible rfl) hHeld ?_; simp only [pqZ]
  refine tkI 59 71 rfl (by intro w hSw; obtain ⟨q0, q1, q3, q4, q5, t5, t6, u0, qs, ts, us⟩ := HDC.out _ (hSw); go_simp <;> with_reducible rfl) hHeld ?_; simp only [pqZ]
  refine tkJ 60 72 rfl (by intro w; go_simp <;> with_reducible rfl) hHeld ?_; simp only [pqZ]
  refine rdZ 38 50 rfl (by kernel_rfl) (fun K hK => ?_)
  go_simp
  refine (HLF.out _ hHeld).mono ?_
  rintro e y5 ⟨rfl, hb7⟩
  have hKeep := since_step hHeld hb7
  clear hb7
  go_wp2_with fail
  refine hK.out _ _ (by (try dsimp only); exact hKeep) (fun hHeld => ?_); clear hK K hKeep; try simp only [pqZ]
  refine tkJ 61 73 rfl (by intro w; go_simp <;> with_reducible rfl) hHeld ?_; simp only [pqZ]
  refine tkJ 62 74 rfl (by intro w; go_simp <;> with_reducible rfl) hHeld ?_; simp only [pqZ]
  refine tkJ 63 4 rfl (by intro w; go_simp <;> with_reducible rfl) hHeld ?_; simp only [pqZ]
  refine wpAnyH_done (by kernel_rfl) ?_ _
  go_wp2_with fail
  go_ret
  exact ⟨rfl, HB1.out.trans (hHeld.mono HB1.out.size)⟩
end
end Go.Proofs.Ytiggcpfmmgmncaa
