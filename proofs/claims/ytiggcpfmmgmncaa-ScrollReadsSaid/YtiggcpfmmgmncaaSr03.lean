import Derived.Test.YtiggcpfmmgmncaaSp00
import Derived.Test.YtiggcpfmmgmncaaSp01
import Derived.Test.YtiggcpfmmgmncaaSp02
import Derived.Test.YtiggcpfmmgmncaaSp03
import Derived.Test.YtiggcpfmmgmncaaSp04
import Derived.Test.YtiggcpfmmgmncaaSp05
import Derived.Test.YtiggcpfmmgmncaaSp06
import Derived.Test.YtiggcpfmmgmncaaSp07
import Derived.Test.YtiggcpfmmgmncaaSp08
import Derived.Test.YtiggcpfmmgmncaaSp09
import Derived.Test.YtiggcpfmmgmncaaSp10
import Derived.Test.YtiggcpfmmgmncaaSp11
import Derived.Test.YtiggcpfmmgmncaaSp12
import Derived.Test.YtiggcpfmmgmncaaSp13
import Derived.Test.YtiggcpfmmgmncaaSp14
import Derived.Test.YtiggcpfmmgmncaaSp15
import Derived.Test.YtiggcpfmmgmncaaSp16
import Derived.Test.YtiggcpfmmgmncaaSp17
import Derived.Test.YtiggcpfmmgmncaaSp18
import Derived.Test.YtiggcpfmmgmncaaSp19
import Derived.Test.YtiggcpfmmgmncaaSp20
import Derived.Test.YtiggcpfmmgmncaaSp21
import Derived.Test.YtiggcpfmmgmncaaSp22
import Derived.Test.YtiggcpfmmgmncaaSp23
import Derived.Test.YtiggcpfmmgmncaaSp24
import Derived.Test.YtiggcpfmmgmncaaSp25
import Derived.Test.YtiggcpfmmgmncaaSp26
import Derived.Test.YtiggcpfmmgmncaaSp27
import Derived.Test.YtiggcpfmmgmncaaSp28
import Derived.Test.YtiggcpfmmgmncaaSp29
import Derived.Test.YtiggcpfmmgmncaaSp30
import Derived.Test.YtiggcpfmmgmncaaSp31
import Derived.Test.YtiggcpfmmgmncaaSp32
import Derived.Test.YtiggcpfmmgmncaaSp33
import Derived.Test.YtiggcpfmmgmncaaSp34
import Derived.Test.YtiggcpfmmgmncaaSp35
import Derived.Test.YtiggcpfmmgmncaaSp36
import Derived.Test.YtiggcpfmmgmncaaSp37
import Derived.Test.YtiggcpfmmgmncaaSp38
import Derived.Test.YtiggcpfmmgmncaaSp39
import Derived.Test.YtiggcpfmmgmncaaSp40
import Derived.Test.YtiggcpfmmgmncaaSp41
import Derived.Below
import Derived.BigQuiet
import Derived.ChangeKeysEq
import Derived.ChangeOld
import Derived.Deep.AppendSrc
import Derived.Deep.CutBlock
import Derived.Deep.CutRange
import Derived.Deep.DeepCutAuto
import Derived.Deep.DeepFit
import Derived.Deep.QuietTactic
import Derived.Deep.RegionHeld3
import Derived.Deep.RegionLaw
import Derived.Deep.Slices
import Derived.Deep.Upon
import Derived.IntWalk
import Derived.Laws.AppendOwnNone
import Derived.Laws.Bits64
import Derived.Laws.BitsAllLaws
import Derived.Laws.CopyOwn
import Derived.Laws.IdiomStrings
import Derived.Laws.NewBlocks
import Derived.Laws.OwnMore
import Derived.Lib.AppendStr
import Derived.Lib.AppendZerosOnto
import Derived.Lib.Hide
import Derived.Lib.Overlaps
import Derived.Lib.SlBytesConst
import Derived.Maps.AppendAt
import Derived.OpenShut
import Derived.Outline
import Derived.ProofKit
import Derived.ShutString
import Derived.Test.YtiggcpfmmgmncaaRows
import Derived.WalkKit
import Derived.WalkLawsBesides
import Derived.WalkSpells
import Derived.Test.YtiggcpfmmgmncaaSr00
import Derived.Test.YtiggcpfmmgmncaaSr02
section
namespace Go.Proofs.Ytiggcpfmmgmncaa
open Go.ChangeShapes Go.WideShapes Go.ChangeAt Go.RowKit
set_option linter.unusedVariables false
set_option linter.unusedSimpArgs false

set_option maxHeartbeats 16000000 in
set_option maxRecDepth 100000 in
theorem walk_ScrollReads (a0 : Option Addr) (n0 c0 : Nat) (a1 a2 a3 a4 : Int) (w : World) (w0 : Rd w (.sl (.cat (.sl (.int .u8)) (.cat (.cat (.int .i64) (.cat (.int .i64) (.cat (.int .i64) (.cat (.int .i64) (.cat (.int .i64) (.cat (.sl (.int .u8)) .nil)))))) .nil))) [.slice a0 n0 c0]) (w1 : (Lit.int .i64 a1).wf = true) (w2 : (Lit.int .i64 a2).wf = true) (w3 : (Lit.int .i64 a3).wf = true) (w4 : (Lit.int .i64 a4).wf = true) :
    Calls Try.prog 5 #[.slice a0 n0 c0, .int .i64 a1, .int .i64 a2, .int .i64 a3, .int .i64 a4] w fun e w' => e = .returned (.bool true) ∧ Below w.heap.size w w' := by
  obtain ⟨L, rfl, h0c, h0m, h0s, h0p⟩ := rd_rowsP (f := Raw8.cells) (p := fun x => x.Ok w) (fun r => rd_raw8) w0
  have HLV := Lib.hid (fun V => lives8_any V)
  have HN := Lib.hid (dnew_any 20 w (by decide) (by decide))
  have HS := Lib.hid h0s
  have HPK := Lib.hid h0p
  clear w0 w1 w2 w3 w4 h0c h0m h0s h0p
  go_enter Try.func5, Try.ntmps5
  go_wp2_with fail
  refine HN.out.mono ?_
  rintro e v1 ⟨b, g, rfl, ⟨K1, kc1, hd1⟩, hb1⟩
  have HD1 := Lib.hid hd1
  have HB1 := Lib.hid hb1
  have HR := Lib.hid (rnew6_any 20 v1 (by decide))
  clear hd1 hb1 HN
  go_wp2_with fail
  refine HR.out.mono ?_
  rintro e v2 ⟨b2, A2, c2, R2, rfl, hr2, hb2⟩
  have HB2 := Lib.hid (since_step HB1.out hb2)
  have HT2 := Lib.hid (Two0.mk1 HD1.out HB1.out.size hr2 hb2)
  have HLY := Lib.hid (lay8_any w a0 c0 L v2 HT2.out LayP.new HB2.out HS.out HPK.out)
  clear hr2 hb2 HR HD1 HT2 HS HPK
  go_wp2_with fail
  refine HLY.out.mono ?_
  rintro e v3 ⟨rfl, d, X, ht3, hp3, hb3⟩
  have HB3 := Lib.hid (HB2.out.trans hb3)
  have HT3 := Lib.hid ht3
  have HP3 := Lib.hid hp3
  clear ht3 hp3 hb3 HLY HB1 HB2
  by_cases hg : OpensP d.S a1 a2 a3 a4
  · obtain ⟨g1, g2, g3, g4, g5, g6, g7, g8⟩ := hg
    obtain ⟨f, rfl⟩ : ∃ n : Nat, a1 = (n : Int) := ⟨a1.toNat, by omega⟩
    obtain ⟨t, rfl⟩ : ∃ n : Nat, a2 = (n : Int) := ⟨a2.toNat, by omega⟩
    rw [Int.toNat_natCast, Int.toNat_natCast] at g6
    have HFT : Hid (f ≤ t ∧ t ≤ d.S.length) := Lib.hid ⟨by omega, by omega⟩
    have HXC : Hid (X.C = d.S) := Lib.hid HP3.out.rel.C
    obtain ⟨nw, hnw⟩ : ∃ nw, newestN d.S f (t - f) = nw := ⟨_, rfl⟩
    have HNW := Lib.hid hnw
    obtain ⟨y, hy⟩ : ∃ y : Sc, ⟨f, t, a3, a4, (scan d.S t a4 f 0 0).1, (scan d.S t a4 f 0 0).2 - f, false⟩ = y := ⟨_, rfl⟩
    have HYB : Hid (y.L.length ≤ 1000 ∧ ∀ b ∈ y.L, b.length ≤ 20400) := Lib.hid (by
      have hb := scan_bd (S := d.S) (t := t) (era := a4) (q := f) (n := 0) (life := 0)
      have := HP3.out.len
      have := HFT.out
      rw [← hy]
      exact ⟨by show (scan d.S t a4 f 0 0).1.length ≤ _; omega, scan_lens⟩)
    have hO1 := HT3.out.popen (f := f) (t := t) (life := a3) (era := a4) HB3.out.size HFT.out.1 HFT.out.2 g4 g5 g7 g8 g6
    rw [hy] at hO1
    have HO1 := Lib.hid hO1
    have hO2 := fun V s (h : Two1 w.heap.size V b g s b2 d y X) (hV : Below w.heap.size w V) => h.ropen (f := f) (t := t) (life := a3) (era := a4) hV.size HFT.out.1 (by rw [HXC.out]; exact HFT.out.2) g4 g5 g7 g8 (by rw [HXC.out]; exact g6)
    rw [HXC.out, hy] at hO2
    have HO2 := Lib.hid hO2
    clear g1 g2 g3 g4 g5 g6 g7 g8 hnw hy hO1 hO2
    go_wp2_with fail
    refine HO1.out.mono ?_
    rintro e v4 ⟨s, rfl, ht4, hb4⟩
    have HB4 := Lib.hid (since_step HB3.out hb4)
    have HO24 := Lib.hid (HO2.out v4 s ht4 HB4.out)
    clear ht4 hb4 HO1 HO2 HT3
    go_wp2_with fail
    refine HO24.out.mono ?_
    rintro e v5 ⟨s2, rfl, ht5, hb5⟩
    have HB5 := Lib.hid (since_step HB4.out hb5)
    have HTt := Lib.hid ht5
    clear ht5 hb5 HO24
    go_wp2_with fail
    obtain ⟨YA, yc, YR, hy5, hy6, hys, hym, hysl, hyr⟩ := HTt.out.ry
    obtain ⟨u, hu⟩ : ∃ u, y.used = u := ⟨_, rfl⟩
    rw [hu] at hy6
    have HU := Lib.hid hu
    have HY5 : Hid (v5.drew.cell? ⟨s2, 5, none⟩ = some (.slice YA YR.length yc)) := Lib.hid hy5
    have HY6 : Hid (v5.drew.cell? ⟨s2, 6, none⟩ = some (.int .i64 u)) := Lib.hid hy6
    have HYS : Hid (s2 < v5.drew.heap.size) := Lib.hid hys
    have HYM := Lib.hid hym
    have HYSL := Lib.hid (⟨hysl, hyr⟩ : Sl v5 YA (rc RowS.cells YR) ∧ ∀ r ∈ YR, Sl v5 r.A (by8 r.l))
    have HYL : Hid (YR.length ≤ 1000000 ∧ ∀ r ∈ YR, r.l.length ≤ 1000000) := Lib.hid ⟨by rw [← List.length_map (f := RowS.l), HYM.out]; have := HYB.out.1; omega, fun r hr => by have := HYB.out.2 r.l (by rw [← HYM.out]; exact List.mem_map.2 ⟨r, hr, rfl⟩); omega⟩
    have HTD : Hid (Two w.heap.size v5.drew b g s b2 s2 d y X y) := Lib.hid (HTt.out.below (Below.refl _ _).drew)
    have HRC := Lib.hid (HTD.out.precs HYB.out.2)
    clear hu hy5 hy6 hys hym hysl hyr HTt
    refine wp_region_held_drew (S := (fun Z => Z.cell? ⟨s2, 5, none⟩ = some (.slice YA YR.length yc) ∧ Z.cell? ⟨s2, 6, none⟩ = some (.int .i64 u) ∧ s2 < Z.heap.size)) (by kernel_rfl) (by exact ⟨HY5.out, HY6.out, HYS.out⟩) (fun hHeld => ?_)
    refine tkZ (i := 0) (oi := ⟨some 58, _, _, _, _, _⟩) (v := ?_) rfl (by kernel_rfl) (fun _ _ _ h => h) (Or.inl ⟨by rfl, ?_⟩) hHeld ?_
    rotate_left
    · (intro w hSw; clear hSw; go_simp <;> with_reducible rfl)
    try simp only [pqZ]
    refine tkZ (i := 2) (oi := ⟨some 60, _, _, _, _, _⟩) (v := ?_) rfl (by kernel_rfl) (fun _ _ _ h => h) (Or.inl ⟨by rfl, ?_⟩) hHeld ?_
    rotate_left
    · (intro w hSw; clear hSw; go_simp <;> with_reducible rfl)
    try simp only [pqZ]
    refine tkZ (i := 3) (oi := ⟨some 61, _, _, _, _, _⟩) (v := ?_) rfl (by kernel_rfl) (fun _ _ _ h => h) (Or.inl ⟨by rfl, ?_⟩) hHeld ?_
    rotate_left
    · (intro w hSw; clear hSw; go_simp <;> with_reducible rfl)
    try simp only [pqZ]
    refine tkZ (i := 4) (oi := ⟨some 62, _, _, _, _, _⟩) (v := ?_) rfl (by kernel_rfl) (fun _ _ _ h => h) (Or.inl ⟨by rfl, ?_⟩) hHeld ?_
    rotate_left
    · (intro w hSw; clear hSw; go_simp <;> with_reducible rfl)
    try simp only [pqZ]
    refine tkZ (i := 5) (oi := ⟨some 63, _, _, _, _, _⟩) (v := ?_) rfl (by kernel_rfl) (fun _ _ _ h => h) (Or.inl ⟨by rfl, ?_⟩) hHeld ?_
    rotate_left
    · (intro w hSw; obtain ⟨q5, q6, qs⟩ := (hSw); go_simp <;> with_reducible rfl)
    try simp only [pqZ]
    refine wpAnyH_ready (rs := [1]) (by kernel_rfl) (by simp) ?_
    refine AllReadyH.cons (o := ⟨some 59, _, _, _, _, _⟩) rfl (fun K hK => ?_) AllReadyH.nil
    go_simp
    refine HRC.out.mono ?_
    rintro e z1 ⟨⟨A5, c5, S5, rfl, own5, map5, or5⟩, hb5⟩
    have HZ1 := Lib.hid (since_step (Below.refl _ _).drew hb5)
    have HU1 := Lib.hid (HTD.out.below hb5)
    have HMP : Hid (S5.map RowS.l = y.L) := Lib.hid map5
    have HS5 : Hid (S5.length ≤ 1000000 ∧ ∀ r ∈ S5, r.l.length ≤ 1000000) := Lib.hid ⟨by rw [← List.length_map (f := RowS.l), HMP.out]; have := HYB.out.1; omega, fun r hr => by have := HYB.out.2 r.l (by rw [← HMP.out]; exact List.mem_map.2 ⟨r, hr, rfl⟩); omega⟩
    have hSM := rsame8_any A5 YA c5 yc S5 YR z1 HS5.out.1 HYL.out.1 (Sl.of_own own5) (HYSL.out.1.below HZ1.out) (fun r hr => ⟨Sl.of_own (or5 r hr), HS5.out.2 r hr⟩) (fun r hr => ⟨(HYSL.out.2 r hr).below HZ1.out, HYL.out.2 r hr⟩)
    rw [HMP.out, HYM.out, decide_eq_true rfl] at hSM
    have HSM := Lib.hid hSM
    have hKeep : (fun Z => Z.cell? ⟨s2, 5, none⟩ = some (.slice YA YR.length yc) ∧ Z.cell? ⟨s2, 6, none⟩ = some (.int .i64 u) ∧ s2 < Z.heap.size) z1 := ⟨(HZ1.out.cell (p := ⟨s2, 5, none⟩) HYS.out).trans HY5.out, (HZ1.out.cell (p := ⟨s2, 6, none⟩) HYS.out).trans HY6.out, Nat.lt_of_lt_of_le HYS.out HZ1.out.size⟩
    clear own5 map5 or5 hb5 hSM HRC
    go_wp2_with fail
    refine hK.out _ _ (by (try dsimp only); exact hKeep) (fun hHeld => ?_)
    clear hK K hKeep
    try simp only [pqZ]
    refine wpAnyH_ready (rs := [6]) (by kernel_rfl) (by simp) ?_
    refine AllReadyH.cons (o := ⟨some 64, _, _, _, _, _⟩) rfl (fun K hK => ?_) AllReadyH.nil
    go_simp
    refine HSM.out.mono ?_
    rintro e z2 ⟨rfl, hb6⟩
    have HZ2 := Lib.hid (since_step HZ1.out hb6)
    have HU2 := Lib.hid (HU1.out.below hb6)
    have HUS := Lib.hid HU2.out.pused
    rw [HU.out] at HUS
    have hKeep : (fun Z => Z.cell? ⟨s2, 5, none⟩ = some (.slice YA YR.length yc) ∧ Z.cell? ⟨s2, 6, none⟩ = some (.int .i64 u) ∧ s2 < Z.heap.size) z2 := ⟨(HZ2.out.cell (p := ⟨s2, 5, none⟩) HYS.out).trans HY5.out, (HZ2.out.cell (p := ⟨s2, 6, none⟩) HYS.out).trans HY6.out, Nat.lt_of_lt_of_le HYS.out HZ2.out.size⟩
    clear hb6 HSM
    go_wp2_with fail
    refine hK.out _ _ (by (try dsimp only); exact hKeep) (fun hHeld => ?_)
    clear hK K hKeep
    try simp only [pqZ]
    refine tkZ (i := 7) (oi := ⟨some 65, _, _, _, _, _⟩) (v := ?_) rfl (by kernel_rfl) (fun _ _ _ h => h) (Or.inl ⟨by rfl, ?_⟩) hHeld ?_
    rotate_left
    · (intro w hSw; clear hSw; go_simp <;> with_reducible rfl)
    try simp only [pqZ]
    refine tkZ (i := 8) (oi := ⟨some 66, _, _, _, _, _⟩) (v := ?_) rfl (by kernel_rfl) (fun _ _ _ h => h) (Or.inl ⟨by rfl, ?_⟩) hHeld ?_
    rotate_left
    · (intro w hSw; clear hSw; go_simp <;> with_reducible rfl)
    try simp only [pqZ]
    refine tkZ (i := 10) (oi := ⟨some 68, _, _, _, _, _⟩) (v := ?_) rfl (by kernel_rfl) (fun _ _ _ h => h) (Or.inl ⟨by rfl, ?_⟩) hHeld ?_
    rotate_left
    · (intro w hSw; clear hSw; go_simp <;> with_reducible rfl)
    try simp only [pqZ]
    refine tkZ (i := 11) (oi := ⟨some 69, _, _, _, _, _⟩) (v := ?_) rfl (by kernel_rfl) (fun _ _ _ h => h) (Or.inl ⟨by rfl, ?_⟩) hHeld ?_
    rotate_left
    · (intro w hSw; clear hSw; go_simp <;> with_reducible rfl)
    try simp only [pqZ]
    refine tkZ (i := 12) (oi := ⟨some 70, _, _, _, _, _⟩) (v := ?_) rfl (by kernel_rfl) (fun _ _ _ h => h) (Or.inl ⟨by rfl, ?_⟩) hHeld ?_
    rotate_left
    · (intro w hSw; clear hSw; go_simp <;> with_reducible rfl)
    try simp only [pqZ]
    refine tkZ (i := 13) (oi := ⟨some 71, _, _, _, _, _⟩) (v := ?_) rfl (by kernel_rfl) (fun _ _ _ h => h) (Or.inl ⟨by rfl, ?_⟩) hHeld ?_
    rotate_left
    · (intro w hSw; obtain ⟨q5, q6, qs⟩ := (hSw); go_simp <;> with_reducible rfl)
    try simp only [pqZ]
    refine wpAnyH_ready (rs := [9]) (by kernel_rfl) (by simp) ?_
    refine AllReadyH.cons (o := ⟨some 67, _, _, _, _, _⟩) rfl (fun K hK => ?_) AllReadyH.nil
    go_simp
    refine HUS.out.mono ?_
    rintro e z3 ⟨rfl, hb7⟩
    have HZ3 := Lib.hid (since_step HZ2.out hb7)
    have HU3 := Lib.hid (HU2.out.below hb7)
    have hP := HU3.out.pnew (f := f) (t := t) HFT.out.1 HFT.out.2
    rw [HNW.out] at hP
    have HPN := Lib.hid hP
    have hKeep : (fun Z => Z.cell? ⟨s2, 5, none⟩ = some (.slice YA YR.length yc) ∧ Z.cell? ⟨s2, 6, none⟩ = some (.int .i64 u) ∧ s2 < Z.heap.size) z3 := ⟨(HZ3.out.cell (p := ⟨s2, 5, none⟩) HYS.out).trans HY5.out, (HZ3.out.cell (p := ⟨s2, 6, none⟩) HYS.out).trans HY6.out, Nat.lt_of_lt_of_le HYS.out HZ3.out.size⟩
    clear hb7 HUS hP
    go_wp2_with fail
    refine hK.out _ _ (by (try dsimp only); exact hKeep) (fun hHeld => ?_)
    clear hK K hKeep
    try simp only [pqZ]
    refine tkZ (i := 14) (oi := ⟨some 72, _, _, _, _, _⟩) (v := ?_) rfl (by kernel_rfl) (fun _ _ _ h => h) (Or.inl ⟨by rfl, ?_⟩) hHeld ?_
    rotate_left
    · (intro w hSw; clear hSw; go_simp <;> with_reducible rfl)
    try simp only [pqZ]
    refine tkZ (i := 15) (oi := ⟨some 73, _, _, _, _, _⟩) (v := ?_) rfl (by kernel_rfl) (fun _ _ _ h => h) (Or.inl ⟨by rfl, ?_⟩) hHeld ?_
    rotate_left
    · (intro w hSw; clear hSw; go_simp <;> with_reducible rfl)
    try simp only [pqZ]
    refine tkZ (i := 16) (oi := ⟨some 74, _, _, _, _, _⟩) (v := ?_) rfl (by kernel_rfl) (fun _ _ _ h => h) (Or.inl ⟨by rfl, ?_⟩) hHeld ?_
    rotate_left
    · (intro w hSw; clear hSw; go_simp <;> with_reducible rfl)
    try simp only [pqZ]
    refine tkZ (i := 17) (oi := ⟨some 75, _, _, _, _, _⟩) (v := ?_) rfl (by kernel_rfl) (fun _ _ _ h => h) (Or.inl ⟨by rfl, ?_⟩) hHeld ?_
    rotate_left
    · (intro w hSw; clear hSw; go_simp <;> with_reducible rfl)
    try simp only [pqZ]
    refine tkZ (i := 18) (oi := ⟨some 76, _, _, _, _, _⟩) (v := ?_) rfl (by kernel_rfl) (fun _ _ _ h => h) (Or.inl ⟨by rfl, ?_⟩) hHeld ?_
    rotate_left
    · (intro w hSw; clear hSw; go_simp <;> with_reducible rfl)
    try simp only [pqZ]
    refine tkZ (i := 19) (oi := ⟨some 77, _, _, _, _, _⟩) (v := ?_) rfl (by kernel_rfl) (fun _ _ _ h => h) (Or.inl ⟨by rfl, ?_⟩) hHeld ?_
    rotate_left
    · (intro w hSw; clear hSw; go_simp <;> with_reducible rfl)
    try simp only [pqZ]
    refine tkZ (i := 21) (oi := ⟨some 79, _, _, _, _, _⟩) (v := ?_) rfl (by kernel_rfl) (fun _ _ _ h => h) (Or.inl ⟨by rfl, ?_⟩) hHeld ?_
    rotate_left
    · (intro w hSw; clear hSw; go_simp <;> with_reducible rfl)
    try simp only [pqZ]
    refine tkZ (i := 22) (oi := ⟨some 80, _, _, _, _, _⟩) (v := ?_) rfl (by kernel_rfl) (fun _ _ _ h => h) (Or.inl ⟨by rfl, ?_⟩) hHeld ?_
    rotate_left
    · (intro w hSw; clear hSw; go_simp <;> with_reducible rfl)
    try simp only [pqZ]
    refine tkZ (i := 23) (oi := ⟨some 81, _, _, _, _, _⟩) (v := ?_) rfl (by kernel_rfl) (fun _ _ _ h => h) (Or.inl ⟨by rfl, ?_⟩) hHeld ?_
    rotate_left
    · (intro w hSw; clear hSw; go_simp <;> with_reducible rfl)
    try simp only [pqZ]
    refine wpAnyH_ready (rs := [20]) (by kernel_rfl) (by simp) ?_
    refine AllReadyH.cons (o := ⟨some 78, _, _, _, _, _⟩) rfl (fun K hK => ?_) AllReadyH.nil
    go_simp
    refine HPN.out.mono ?_
    rintro e z4 ⟨rfl, hb8⟩
    have HZ4 := Lib.hid (since_step HZ3.out hb8)
    have HU4 := Lib.hid (HU3.out.below hb8)
    have hP := HU4.out.rnew (f := f) (t := t) HFT.out.1 (by rw [HXC.out]; exact HFT.out.2)
    rw [HXC.out, HNW.out] at hP
    have HRN := Lib.hid hP
    have hKeep : (fun Z => Z.cell? ⟨s2, 5, none⟩ = some (.slice YA YR.length yc) ∧ Z.cell? ⟨s2, 6, none⟩ = some (.int .i64 u) ∧ s2 < Z.heap.size) z4 := ⟨(HZ4.out.cell (p := ⟨s2, 5, none⟩) HYS.out).trans HY5.out, (HZ4.out.cell (p := ⟨s2, 6, none⟩) HYS.out).trans HY6.out, Nat.lt_of_lt_of_le HYS.out HZ4.out.size⟩
    clear hb8 HPN hP
    go_wp2_with fail
    refine hK.out _ _ (by (try dsimp only); exact hKeep) (fun hHeld => ?_)
    clear hK K hKeep
    try simp only [pqZ]
    refine wpAnyH_ready (rs := [24]) (by kernel_rfl) (by simp) ?_
    refine AllReadyH.cons (o := ⟨some 82, _, _, _, _, _⟩) rfl (fun K hK => ?_) AllReadyH.nil
    go_simp
    refine HRN.out.mono ?_
    rintro e z5 ⟨rfl, hb9⟩
    have HZ5 := Lib.hid (since_step HZ4.out hb9)
    have hKeep : (fun Z => Z.cell? ⟨s2, 5, none⟩ = some (.slice YA YR.length yc) ∧ Z.cell? ⟨s2, 6, none⟩ = some (.int .i64 u) ∧ s2 < Z.heap.size) z5 := ⟨(HZ5.out.cell (p := ⟨s2, 5, none⟩) HYS.out).trans HY5.out, (HZ5.out.cell (p := ⟨s2, 6, none⟩) HYS.out).trans HY6.out, Nat.lt_of_lt_of_le HYS.out HZ5.out.size⟩
    clear hb9 HRN
    go_wp2_with fail
    refine hK.out _ _ (by (try dsimp only); exact hKeep) (fun hHeld => ?_)
    clear hK K hKeep
    try simp only [pqZ]
    refine tkZ (i := 25) (oi := ⟨some 83, _, _, _, _, _⟩) (v := ?_) rfl (by kernel_rfl) (fun _ _ _ h => h) (Or.inl ⟨by rfl, ?_⟩) hHeld ?_
    rotate_left
    · (intro w hSw; clear hSw; go_simp <;> with_reducible rfl)
    try simp only [pqZ]
    refine tkZ (i := 26) (oi := ⟨some 84, _, _, _, _, _⟩) (v := ?_) rfl (by kernel_rfl) (fun _ _ _ h => h) (Or.inl ⟨by rfl, ?_⟩) hHeld ?_
    rotate_left
    · (intro w hSw; clear hSw; go_simp <;> with_reducible rfl)
    try simp only [pqZ]
    refine tkZ (i := 27) (oi := ⟨some 85, _, _, _, _, _⟩) (v := ?_) rfl (by kernel_rfl) (fun _ _ _ h => h) (Or.inl ⟨by rfl, ?_⟩) hHeld ?_
    rotate_left
    · (intro w hSw; clear hSw; go_simp <;> with_reducible rfl)
    try simp only [pqZ]
    refine wpAnyH_ready (rs := [28]) (by kernel_rfl) (by simp) ?_
    refine AllReadyH.cons (o := ⟨some 86, _, _, _, _, _⟩) rfl (fun K hK => ?_) AllReadyH.nil
    go_simp
    refine (HLV.out _).mono ?_
    rintro e z6 ⟨rfl, hb10⟩
    have HZ6 := Lib.hid (since_step HZ5.out hb10)
    have hKeep : (fun Z => Z.cell? ⟨s2, 5, none⟩ = some (.slice YA YR.length yc) ∧ Z.cell? ⟨s2, 6, none⟩ = some (.int .i64 u) ∧ s2 < Z.heap.size) z6 := ⟨(HZ6.out.cell (p := ⟨s2, 5, none⟩) HYS.out).trans HY5.out, (HZ6.out.cell (p := ⟨s2, 6, none⟩) HYS.out).trans HY6.out, Nat.lt_of_lt_of_le HYS.out HZ6.out.size⟩
    clear hb10
    go_wp2_with fail
    refine hK.out _ _ (by (try dsimp only); exact hKeep) (fun hHeld => ?_)
    clear hK K hKeep
    try simp only [pqZ]
    refine tkZ (i := 29) (oi := ⟨some 87, _, _, _, _, _⟩) (v := ?_) rfl (by kernel_rfl) (fun _ _ _ h => h) (Or.inl ⟨by rfl, ?_⟩) hHeld ?_
    rotate_left
    · (intro w hSw; clear hSw; go_simp <;> with_reducible rfl)
    try simp only [pqZ]
    refine tkZ (i := 30) (oi := ⟨some 10, _, _, _, _, _⟩) (v := ?_) rfl (by kernel_rfl) (fun _ _ _ h => h) (Or.inl ⟨by rfl, ?_⟩) hHeld ?_
    rotate_left
    · (intro w hSw; clear hSw; go_simp <;> with_reducible rfl)
    try simp only [pqZ]
    refine wpAnyH_done (by kernel_rfl) ?_ _
    go_wp2_with fail
    go_ret
    exact ⟨rfl, HB5.out.trans (HZ6.out.mono HB5.out.size)⟩
  · have HO1 := Lib.hid (HT3.out.pbad HB3.out.size a1 a2 a3 a4 hg)
    have HXC : Hid (X.C = d.S) := Lib.hid HP3.out.rel.C
    have HO2 := Lib.hid (fun V (h : Two0 w.heap.size V b g b2 d X) => h.rbad a1 a2 a3 a4 (by rw [HXC.out]; exact hg))
    clear hg
    go_wp2_with fail
    refine HO1.out.mono ?_
    rintro e v4 ⟨rfl, hb4⟩
    have HB4 := Lib.hid (since_step HB3.out hb4)
    have HO24 := Lib.hid (HO2.out v4 (HT3.out.below hb4))
    clear hb4 HO1 HO2 HT3
    go_wp2_with fail
    refine HO24.out.mono ?_
    rintro e v5 ⟨rfl, hb5⟩
    have HB5 := Lib.hid (since_step HB4.out hb5)
    clear hb5 HO24
    go_wp2_with fail
    refine (HLV.out _).mono ?_
    rintro e v9 ⟨rfl, hb9⟩
    have hB9 := since_step HB5.out hb9
    go_wp2_with fail
    go_ret
    exact ⟨rfl, hB9⟩
end Go.Proofs.Ytiggcpfmmgmncaa
end
