import Derived.Test.YtiggcpfmmgmncaaVp32
import Derived.Test.YtiggcpfmmgmncaaVp33
import Derived.Test.YtiggcpfmmgmncaaVp34
set_option maxHeartbeats 16000000
set_option maxRecDepth 100000
set_option linter.unusedVariables false
set_option linter.unusedSimpArgs false
namespace Go.Proofs.Ytiggcpfmmgmncaa
open Go.ChangeShapes Go.WideShapes Go.ChangeAt Go.RowKit
section
def Vv.rcells (x : Vv) (b s : Nat) (SA : Option Addr) (k : Nat) : Array Value := #[.pointer (some ⟨b, 0, none⟩), .int .i64 x.each, .int .i64 x.life, .int .i64 x.era, .slice SA x.state.length k, .pointer (some ⟨s, 0, none⟩), .bool x.dead]
theorem ropen10_few {B b c kc : Nat} {A KA : Option Addr} {R : List (RowS Nat)} {x : Rv} (each : Int) (w : World) (h : RvA B w b A c R KA kc x) (hbad : each < 1 ∨ (x.C.length : Int) ≤ 2 * each) (hew : -9223372036854775808 ≤ each ∧ each ≤ 9223372036854775807) :
    Calls Try.prog 37 #[.pointer (some ⟨b, 0, none⟩), .int .i64 each] w fun e w' => e = .returned (.tuple #[.pointer none, .int .i64 2]) ∧ Below w.heap.size w w' := by
  obtain ⟨p0, p1, p2, p3, p4, ps⟩ := h.got
  have hsm := h.small.1
  obtain ⟨n, hn⟩ : ∃ n, x.C.length = n := ⟨_, rfl⟩
  rw [hn] at p0 hbad hsm
  clear h hn
  by_cases c1 : each < 1
  · have d1 : decide (each < 1) = true := decide_eq_true c1
    clear hbad hew hsm
    go_enter Try.func37, Try.ntmps37
    go_wp2_with fail
    go_ret2
    exact ⟨rfl, Below.refl _ _⟩
  · have d1 : decide (each < 1) = false := decide_eq_false c1
    by_cases c2 : (n : Int) ≤ each
    · have d2 : decide ((n : Int) ≤ each) = true := decide_eq_true c2
      clear hbad hew hsm
      go_enter Try.func37, Try.ntmps37
      go_wp2_with fail
      go_ret2
      exact ⟨rfl, Below.refl _ _⟩
    · have d2 : decide ((n : Int) ≤ each) = false := decide_eq_false c2
      have c3 : (n : Int) ≤ 2 * each := by omega
      have d3 : decide ((n : Int) ≤ 2 * each) = true := decide_eq_true c3
      have w1 : IntKind.i64.wrap (2 * each) = 2 * each := by rw [IntKind.wrap_i64]; omega
      clear hbad hew hsm
      go_enter Try.func37, Try.ntmps37
      go_wp2_with fail
      go_ret2
      exact ⟨rfl, Below.refl _ _⟩
theorem ropen10_ok {B b c kc : Nat} {A KA : Option Addr} {R : List (RowS Nat)} {x : Rv} (each : Nat) (w : World) (h : RvA B w b A c R KA kc x) (hB : B ≤ w.heap.size) (h1 : 1 ≤ each) (h2 : 2 * each < x.C.length) (hnew : newestN x.C 0 x.C.length < 16777214) :
    Calls Try.prog 37 #[.pointer (some ⟨b, 0, none⟩), .int .i64 each] w fun e w' => (∃ v s A' c' R' SA k, e = .returned (.tuple #[.pointer (some ⟨v, 0, none⟩), .int .i64 0]) ∧ w'.heap[v]? = some (.cells ((openV x.C each).rcells b s SA k) 91 (0, 0)) ∧ w.heap.size ≤ v ∧ RsA w.heap.size w' s b A' c' R' (openV x.C each).sc ∧ OwnR w.heap.size w' R' ∧ w'.ownsRow w.heap.size 5 1 (.slice SA (openV x.C each).state.length k) (openV x.C each).state.length (by8 (openV x.C each).state)) ∧ Below w.heap.size w w' := by
  have hsm := h.small.1
  have hbn := newestN_bd x.C 0 x.C.length
  have HNW := Lib.hid (rnewest8_any 0 x.C.length w h (Nat.zero_le _) (Nat.le_refl _))
  rw [Nat.sub_zero] at HNW
  obtain ⟨p0, p1, p2, p3, p4, ps⟩ := h.got
  have g1 : ¬ (each : Int) < 1 := by omega
  have d1 : decide ((each : Int) < 1) = false := decide_eq_false g1
  have g2 : ¬ (x.C.length : Int) ≤ (each : Int) := by omega
  have d2 : decide ((x.C.length : Int) ≤ (each : Int)) = false := decide_eq_false g2
  have d2n : decide (x.C.length ≤ each) = false := decide_eq_false (by omega)
  obtain ⟨e2, he2⟩ : ∃ e2, 2 * each = e2 := ⟨_, rfl⟩
  have w1 : IntKind.i64.wrap (2 * (each : Int)) = (e2 : Int) := by rw [IntKind.wrap_i64]; omega
  have g3 : ¬ (x.C.length : Int) ≤ (e2 : Int) := by omega
  have d3 : decide ((x.C.length : Int) ≤ (e2 : Int)) = false := decide_eq_false g3
  have d3n : decide (x.C.length ≤ e2) = false := decide_eq_false (by omega)
  have HLD := Lib.hid (fun V (hV : Below w.heap.size w V) => rload9_any 0 each V (h.below hV) (by omega) h1)
  have hld := loadS_bd x.C 0 each
  have HOP := Lib.hid (fun V (hV : Below w.heap.size w V) => ropen8_ok (2 * each) x.C.length (newestN x.C 0 x.C.length + 1) (loadS x.C 0 each).1 V (h.below hV) (Nat.le_trans hB hV.size) (by omega) (Nat.le_refl _) (by omega) (by omega) hld.1 hld.2.1 (by
    have := newest_le (S := x.C) (M := newestN x.C 0 x.C.length) hbn.1 (fun i f hf => newest_all i f hf) (2 * each) (x.C.length - 2 * each)
    omega))
  have hwl : IntKind.i64.wrap (newestN x.C 0 x.C.length + 1) = newestN x.C 0 x.C.length + 1 := by rw [IntKind.wrap_i64]; omega
  obtain ⟨V0, hV0⟩ : ∃ V0, openV x.C each = V0 := ⟨_, rfl⟩
  have hsc : (⟨2 * each, x.C.length, newestN x.C 0 x.C.length + 1, (loadS x.C 0 each).1, (scan x.C x.C.length (loadS x.C 0 each).1 (2 * each) 0 0).1, (scan x.C x.C.length (loadS x.C 0 each).1 (2 * each) 0 0).2 - 2 * each, false⟩ : Sc) = V0.sc := by rw [← hV0]; rfl
  have HV1 : Hid (V0.each = each ∧ V0.life = newestN x.C 0 x.C.length + 1 ∧ V0.era = (loadS x.C 0 each).1 ∧ V0.state = (loadS x.C 0 each).2.1 ∧ V0.dead = false) := Lib.hid (by rw [← hV0]; exact ⟨rfl, rfl, rfl, rfl, rfl⟩)
  rw [hsc, he2] at HOP
  rw [hV0]
  obtain ⟨nw, hnw⟩ : ∃ nw, newestN x.C 0 x.C.length = nw := ⟨_, rfl⟩
  rw [hnw] at HNW hnew HOP HV1 hwl
  have d4 : decide ((16777214 : Int) ≤ nw) = false := decide_eq_false (by omega)
  have g4 : ¬ (16777214 : Int) ≤ nw := by omega
  obtain ⟨⟨m, lb, z⟩, hL⟩ : ∃ L, loadS x.C 0 each = L := ⟨_, rfl⟩
  rw [hL] at HLD HOP HV1
  simp only at HV1
  clear h hB hnw hsm hbn hld hL hsc hV0 hnew he2 h2
  go_enter Try.func37, Try.ntmps37
  go_wp2_with fail
  refine HNW.out.mono ?_
  rintro e v1 ⟨rfl, hb1⟩
  have HB1 := Lib.hid hb1
  clear hb1 p0 p1 p2 p3 p4 ps HNW
  go_wp2_with fail
  refine (HLD.out _ HB1.out).mono ?_
  rintro e v2 ⟨⟨A1, c1', rfl, own1⟩, hb2⟩
  have HB2 := Lib.hid (since_step HB1.out hb2)
  have HO1 := Lib.hid (own_base own1 HB1.out.size)
  clear own1 hb2 HLD
  go_wp2_with fail
  have hb0 : Below v2.heap.size v2 (v2.alloc (.cells #[.pointer (some ⟨b, 0, none⟩), .int .i64 each, .int .i64 (nw + 1), .int .i64 m, .slice A1 lb.length c1', .pointer none, .bool false] 91)) := since_alloc (Below.refl _ _) _
  have hq : (v2.alloc (.cells #[.pointer (some ⟨b, 0, none⟩), .int .i64 each, .int .i64 (nw + 1), .int .i64 m, .slice A1 lb.length c1', .pointer none, .bool false] 91)).heap[v2.heap.size]? = some (.cells #[.pointer (some ⟨b, 0, none⟩), .int .i64 each, .int .i64 (nw + 1), .int .i64 m, .slice A1 lb.length c1', .pointer none, .bool false] 91) := by rw [heap_alloc_new]
  have HB3 := Lib.hid (since_alloc HB2.out (.cells #[.pointer (some ⟨b, 0, none⟩), .int .i64 each, .int .i64 (nw + 1), .int .i64 m, .slice A1 lb.length c1', .pointer none, .bool false] 91))
  have HO3 := Lib.hid (own_below HO1.out hb0)
  have hqv : w.heap.size ≤ v2.heap.size := HB2.out.size
  generalize v2.alloc (.cells #[.pointer (some ⟨b, 0, none⟩), .int .i64 each, .int .i64 (nw + 1), .int .i64 m, .slice A1 lb.length c1', .pointer none, .bool false] 91) = v3 at *
  generalize v2.heap.size = q at *
  have hqs := (box_cells' hq 0).2.2
  have HQ := Lib.hid hq
  have HQV := Lib.hid hqv
  have HQS := Lib.hid hqs
  clear hb0 hq hqv hqs HB2 HO1
  refine (HOP.out _ HB3.out).mono ?_
  rintro e v4 ⟨⟨s, A4, c4', R4, rfl, hs4, hr4⟩, hb4⟩
  have HB4 := Lib.hid (since_step HB3.out hb4)
  have HO4 := Lib.hid (own_below HO3.out hb4)
  have hq4 := (hb4.block q HQS.out).trans HQ.out
  have hsz4 : q < v4.heap.size := Nat.lt_of_lt_of_le HQS.out hb4.size
  have hne : s ≠ q := by have := hs4.ge; have := HQS.out; omega
  have HS4 := Lib.hid hs4
  have HR4 := Lib.hid hr4
  have HNE := Lib.hid hne
  have HQ4 := Lib.hid hq4
  have r5 := (box_cells' hq4 5).1
  have f5 := (box_cells' hq4 5).2.1
  clear hs4 hr4 hb4 hne hq4 HOP
  go_wp2_with fail
  go_ret2
  obtain ⟨t1, t2, t3, t4, t5⟩ := HV1.out
  refine ⟨⟨q, s, A4, c4', R4, A1, c1', rfl, ?_, HQV.out, ?_, ?_, ?_⟩, HB4.out.setCell (p := ⟨q, 5, none⟩) HQV.out _⟩
  · have h9 := set_blk (i := 5) (.pointer (some ⟨s, 0, none⟩)) HQ4.out
    unfold Vv.rcells
    rw [t1, t2, t3, t4, t5]
    exact h9
  · exact (HS4.out.base HB3.out.size).far (ChgL.set (l := [q]) (b := q) 5 _ (by simp)) (by simpa using HNE.out) (fun y hy => by rw [List.mem_singleton] at hy; rw [hy]; exact own_type HS4.out.own HQ4.out (by decide))
  · exact fun r hr => own_far1 (own_base (HR4.out r hr) HB3.out.size) (p := ⟨q, 5, none⟩) (own_type (HR4.out r hr) HQ4.out (by decide)) _
  · rw [t4]
    exact own_far1 HO4.out (p := ⟨q, 5, none⟩) (own_type HO4.out HQ4.out (by decide)) _
end
section
def Vv.rapp (x : Vv) (X : Rv) (l : List Nat) : (Vv × Rv) × Int :=
  if x.dead = true ∨ X.off = true then ((x, X), 9)
  else (({ x with sc := (x.sc.rapp X l).1.1, dead := (x.sc.rapp X l).2 == 9 }, (x.sc.rapp X l).1.2), (x.sc.rapp X l).2)
theorem rvapp_any {B b c kc s c2 v k : Nat} {A KA A2 SA : Option Addr} {R R2 : List (RowS Nat)} {X : Rv} {x : Vv} (rA : Option Addr) (rc_ : Nat) (l : List Nat) (w : World) (h : RvA B w b A c R KA kc X) (hy : RsA B w s b A2 c2 R2 x.sc) (hv : w.heap[v]? = some (.cells (x.rcells b s SA k) 91 (0, 0))) (hB : B ≤ w.heap.size) (hlc : l.length ≤ rc_) (hcm : rc_ ≤ maxLen) (hl : l.length ≤ 100000) (hrs : Sl w rA (by8 l)) (ho : Oct l)
    (htc : x.sc.t ≤ X.C.length) (hfu : X.fuse ≤ 9223372036854775807) (hfl : -9223372036854775807 ≤ X.fuse) (hap : ∀ z ∈ blkR b A X.C.length c, (x.sc.row A2 c2).ownBlock ≠ some z) (hLn : x.sc.L.length ≤ 900000) :
    Calls Try.prog 39 #[.pointer (some ⟨v, 0, none⟩), .slice rA l.length rc_] w fun e w' => e = .returned (.int .i64 (x.rapp X l).2) ∧ ∃ R' A2' c2' R2', RvA B w' b A c R' KA kc (x.rapp X l).1.2 ∧ RsA B w' s b A2' c2' R2' (x.rapp X l).1.1.sc ∧ (R2' = R2 ∨ R2' = R2 ++ [⟨rA, rc_, l⟩]) ∧ w'.heap[v]? = some (.cells ((x.rapp X l).1.1.rcells b s SA k) 91 (0, 0)) ∧ ChgL (v :: blkD b A X.C.length c s (x.sc.row A2 c2)) w w' ∧
      (((x.rapp X l).1.1.sc.row A2' c2').ownBlock = (x.sc.row A2 c2).ownBlock ∨ ∃ k, w.heap.size ≤ k ∧ ((x.rapp X l).1.1.sc.row A2' c2').ownBlock = some k) := by
  obtain ⟨p0, p1, p2, p3, p4, ps⟩ := h.got
  have r0 : w.cell? ⟨v, 0, none⟩ = some (.pointer (some ⟨b, 0, none⟩)) := (box_cells' hv 0).1
  have r5 : w.cell? ⟨v, 5, none⟩ = some (.pointer (some ⟨s, 0, none⟩)) := (box_cells' hv 5).1
  have r6 : w.cell? ⟨v, 6, none⟩ = some (.bool x.dead) := (box_cells' hv 6).1
  have rs := (box_cells' hv 0).2.2
  have HRV := Lib.hid h
  have HRY := Lib.hid hy
  have HVB := Lib.hid hv
  by_cases hd : x.dead = true ∨ X.off = true
  · have e1 : x.rapp X l = ((x, X), 9) := by unfold Vv.rapp; rw [if_pos hd]
    have HE := Lib.hid e1
    clear h hy hv hB hlc hcm hl hrs ho htc hfu hfl hap hLn e1
    cases hdd : x.dead with
    | true =>
      rw [hdd] at r6
      clear hd hdd
      go_enter Try.func39, Try.ntmps39
      go_wp2_with fail
      go_ret
      rw [HE.out]
      exact ⟨rfl, R, A2, c2, R2, HRV.out, HRY.out, .inl rfl, HVB.out, ChgL.refl _ _, .inl rfl⟩
    | false =>
      have hoff : X.off = true := by rcases hd with e | e; rw [hdd] at e; cases e; exact e
      rw [hdd] at r6
      rw [hoff] at p1
      clear hd hdd hoff
      go_enter Try.func39, Try.ntmps39
      go_wp2_with fail
      go_ret
      rw [HE.out]
      exact ⟨rfl, R, A2, c2, R2, HRV.out, HRY.out, .inl rfl, HVB.out, ChgL.refl _ _, .inl rfl⟩
  · have e1 : x.rapp X l = (({ x with sc := (x.sc.rapp X l).1.1, dead := (x.sc.rapp X l).2 == 9 }, (x.sc.rapp X l).1.2), (x.sc.rapp X l).2) := by unfold Vv.rapp; rw [if_neg hd]
    have hdead : x.dead = false := by cases hh : x.dead <;> simp_all
    have hoff : X.off = false := by cases hh : X.off <;> simp_all
    have HAP := Lib.hid (rapp_any rA rc_ l w h hy hB hlc hcm hl hrs ho htc hfu hfl hap hLn)
    have HTY := Lib.hid (blkD_type h hy)
    have HNM := Lib.hid (not_mem_type (blkD_type h hy) hv (by decide))
    rw [e1]
    rw [hdead] at r6
    rw [hoff] at p1
    obtain ⟨⟨⟨y1, X1⟩, z⟩, hz⟩ : ∃ Z, x.sc.rapp X l = Z := ⟨_, rfl⟩
    rw [hz] at HAP ⊢
    simp only at HAP ⊢
    clear h hy hv hB hlc hcm hl hrs ho htc hfu hfl hap hLn e1 hd hdead hoff hz
    go_enter Try.func39, Try.ntmps39
    go_wp2_with fail
    refine HAP.out.mono ?_
    rintro e w1 ⟨rfl, R', A2', c2', R2', hv1, hs1, hR, hc1, hrow⟩
    have hv2 := (hc1.block v rs HNM.out).trans HVB.out
    have HV1 := Lib.hid hv1
    have HS1 := Lib.hid hs1
    have HC1 := Lib.hid hc1
    have HR1 := Lib.hid hR
    have HRW := Lib.hid hrow
    have HV2 := Lib.hid hv2
    have rs1 := (box_cells' hv2 0).2.2
    have q6 : w1.cell? ⟨v, 6, none⟩ = some (.bool x.dead) := (box_cells' hv2 6).1
    have f6 := (box_cells' hv2 6).2.1
    clear hv1 hs1 hc1 hR hrow hv2 p0 p1 p2 p3 p4 ps r0 r5 r6 rs HAP
    go_wp2_with fail
    go_ret
    have hcv : ChgL [v] w1 (w1.setCell ⟨v, 6, none⟩ (.bool (z == 9))) := ChgL.set (l := [v]) (b := v) 6 _ (by simp)
    have hoR : ∀ y ∈ [v], (Value.slice A X1.C.length c).ownBlock ≠ some y := fun y hy => by rw [List.mem_singleton] at hy; rw [hy]; exact own_type HV1.out.own HV2.out (by decide)
    have hoS : ∀ y ∈ [v], (y1.row A2' c2').ownBlock ≠ some y := fun y hy => by rw [List.mem_singleton] at hy; rw [hy]; exact own_type HS1.out.own HV2.out (by decide)
    have hnb : ∀ {n : Nat} {cs : Array Value} {T : TypeId} {zz : Nat × Nat}, w1.heap[n]? = some (.cells cs T zz) → T ≠ 91 → n ∉ [v] := fun {n cs T zz} hn hT hm => by
      rw [List.mem_singleton] at hm
      rw [hm, HV2.out] at hn
      injection hn with hn
      injection hn with _ hn
      exact hT hn.symm
    refine ⟨rfl, R', A2', c2', R2', HV1.out.far hcv (hnb HV1.out.blk (by decide)) hoR (fun y hy => by rw [List.mem_singleton] at hy; rw [hy]; exact ⟨_, _, _, HV2.out, by decide, by decide⟩), HS1.out.far hcv (hnb HS1.out.blk (by decide)) hoS, HR1.out, set_blk (i := 6) (.bool (z == 9)) HV2.out, ((HC1.out.mono (fun y hy => List.mem_cons_of_mem _ hy)).trans hcv (m := [v]) (l := v :: blkD b A X.C.length c s (x.sc.row A2 c2)) (fun y hy => .inl (by rw [List.mem_singleton] at hy; rw [hy]; exact List.mem_cons_self ..))), HRW.out⟩
end
section
theorem rvcomp_off {B b c kc s c2 v k : Nat} {A KA A2 SA : Option Addr} {R R2 : List (RowS Nat)} {X : Rv} {x : Vv} (rA : Option Addr) (rc_ : Nat) (l : List Nat) (w : World) (h : RvA B w b A c R KA kc X) (hy : RsA B w s b A2 c2 R2 x.sc) (hv : w.heap[v]? = some (.cells (x.rcells b s SA k) 91 (0, 0))) (hd : x.dead = true ∨ X.off = true) :
    Calls Try.prog 41 #[.pointer (some ⟨v, 0, none⟩), .slice rA l.length rc_] w fun e w' => e = .returned (.int .i64 9) ∧ w' = w := by
  obtain ⟨p0, p1, p2, p3, p4, ps⟩ := h.got
  have r0 : w.cell? ⟨v, 0, none⟩ = some (.pointer (some ⟨b, 0, none⟩)) := (box_cells' hv 0).1
  have r1 : w.cell? ⟨v, 1, none⟩ = some (.int .i64 x.each) := (box_cells' hv 1).1
  have r2 : w.cell? ⟨v, 2, none⟩ = some (.int .i64 x.life) := (box_cells' hv 2).1
  have r3 : w.cell? ⟨v, 3, none⟩ = some (.int .i64 x.era) := (box_cells' hv 3).1
  have r6 : w.cell? ⟨v, 6, none⟩ = some (.bool x.dead) := (box_cells' hv 6).1
  have rs := (box_cells' hv 0).2.2
  clear h hy hv
  cases hdd : x.dead with
  | true =>
    rw [hdd] at r6
    clear hd hdd
    go_enter Try.func41, Try.ntmps41
    go_wp2_with fail
    go_ret
    exact ⟨rfl, rfl⟩
  | false =>
    have hoff : X.off = true := by rcases hd with e | e; rw [hdd] at e; cases e; exact e
    rw [hdd] at r6
    rw [hoff] at p1
    clear hd hdd hoff
    go_enter Try.func41, Try.ntmps41
    go_wp2_with fail
    go_ret
    exact ⟨rfl, rfl⟩
theorem rvcomp_full {B b c kc s c2 v k : Nat} {A KA A2 SA : Option Addr} {R R2 : List (RowS Nat)} {X : Rv} {x : Vv} (rA : Option Addr) (rc_ : Nat) (l : List Nat) (w : World) (h : RvA B w b A c R KA kc X) (hy : RsA B w s b A2 c2 R2 x.sc) (hv : w.heap[v]? = some (.cells (x.rcells b s SA k) 91 (0, 0))) (hdead : x.dead = false) (hoff : X.off = false) (hlf : 16777214 ≤ x.life) :
    Calls Try.prog 41 #[.pointer (some ⟨v, 0, none⟩), .slice rA l.length rc_] w fun e w' => e = .returned (.int .i64 10) ∧ w' = w := by
  obtain ⟨p0, p1, p2, p3, p4, ps⟩ := h.got
  have r0 : w.cell? ⟨v, 0, none⟩ = some (.pointer (some ⟨b, 0, none⟩)) := (box_cells' hv 0).1
  have r1 : w.cell? ⟨v, 1, none⟩ = some (.int .i64 x.each) := (box_cells' hv 1).1
  have r2 : w.cell? ⟨v, 2, none⟩ = some (.int .i64 x.life) := (box_cells' hv 2).1
  have r3 : w.cell? ⟨v, 3, none⟩ = some (.int .i64 x.era) := (box_cells' hv 3).1
  have r6 : w.cell? ⟨v, 6, none⟩ = some (.bool x.dead) := (box_cells' hv 6).1
  have rs := (box_cells' hv 0).2.2
  have d1 : decide (16777214 ≤ x.life) = true := decide_eq_true hlf
  rw [hdead] at r6
  rw [hoff] at p1
  clear h hy hv hdead hoff
  go_enter Try.func41, Try.ntmps41
  go_wp2_with fail
  go_ret
  exact ⟨rfl, rfl⟩
theorem rvcomp_no {B b c kc s c2 v k : Nat} {A KA A2 SA : Option Addr} {R R2 : List (RowS Nat)} {X : Rv} {x : Vv} (rA : Option Addr) (rc_ : Nat) (l : List Nat) (w : World) (h : RvA B w b A c R KA kc X) (hy : RsA B w s b A2 c2 R2 x.sc) (hv : w.heap[v]? = some (.cells (x.rcells b s SA k) 91 (0, 0))) (hB : B ≤ w.heap.size) (hlc : l.length ≤ rc_) (hcm : rc_ ≤ maxLen) (hl : l.length ≤ 100000) (hrs : Sl w rA (by8 l)) (ho : Oct l) (hfu : X.fuse ≤ 9223372036854775807) (hfl : -9223372036854775807 ≤ X.fuse) (he : 1 ≤ x.each) (h2e : 2 * x.each ≤ X.C.length) (her0 : 0 ≤ x.era) (her : x.era + 1 ≤ 16777215)
    (hap : ∀ z ∈ blkR b A X.C.length c, (x.sc.row A2 c2).ownBlock ≠ some z) (hdead : x.dead = false) (hoff : X.off = false) (hlf : x.life < 16777214) (hz : (X.save 0 x.each x.life (x.era + 1) l).2 ≠ 0) :
    Calls Try.prog 41 #[.pointer (some ⟨v, 0, none⟩), .slice rA l.length rc_] w fun e w' => e = .returned (.int .i64 (X.save 0 x.each x.life (x.era + 1) l).2) ∧ ∃ R', RvA B w' b A c R' KA kc (X.save 0 x.each x.life (x.era + 1) l).1 ∧ RsA B w' s b A2 c2 R2 x.sc ∧ w'.heap[v]? = some (.cells (({ x with dead := (X.save 0 x.each x.life (x.era + 1) l).2 == 9 } : Vv).rcells b s SA k) 91 (0, 0)) ∧ ChgL (v :: blkR b A X.C.length c) w w' := by
  obtain ⟨p0, p1, p2, p3, p4, ps⟩ := h.got
  have r0 : w.cell? ⟨v, 0, none⟩ = some (.pointer (some ⟨b, 0, none⟩)) := (box_cells' hv 0).1
  have r1 : w.cell? ⟨v, 1, none⟩ = some (.int .i64 x.each) := (box_cells' hv 1).1
  have r2 : w.cell? ⟨v, 2, none⟩ = some (.int .i64 x.life) := (box_cells' hv 2).1
  have r3 : w.cell? ⟨v, 3, none⟩ = some (.int .i64 x.era) := (box_cells' hv 3).1
  have r6 : w.cell? ⟨v, 6, none⟩ = some (.bool x.dead) := (box_cells' hv 6).1
  have rs := (box_cells' hv 0).2.2
  have d1 : decide (16777214 ≤ x.life) = false := decide_eq_false (by omega)
  have g1 : ¬ 16777214 ≤ x.life := by omega
  have w1 : IntKind.i64.wrap (x.era + 1) = x.era + 1 := by rw [IntKind.wrap_i64]; omega
  have HSV := Lib.hid (rsave9_any 0 x.each x.life (x.era + 1) rA rc_ l w.drew (h.below (Below.refl _ _).drew) hB (by omega) he hlc hcm hl (hrs.below (Below.refl _ w).drew) ho hoff hfu hfl)
  have HNM := Lib.hid (not_mem_type h.row_blk hv (by decide))
  have HTY := Lib.hid (h.row_blk)
  have HRY := Lib.hid hy
  have HRV := Lib.hid h
  have HVB := Lib.hid hv
  have HAP := Lib.hid hap
  rw [hdead] at r6
  rw [hoff] at p1
  obtain ⟨⟨X1, z⟩, hS⟩ : ∃ Z, X.save 0 x.each x.life (x.era + 1) l = Z := ⟨_, rfl⟩
  rw [hS] at HSV hz ⊢
  simp only at HSV hz ⊢
  have hzb : (z != 0) = true := by simpa using hz
  clear h hy hv hB hap hlc hcm hl hrs ho hfu hfl he h2e her0 her hdead hoff hlf hS hz
  go_enter Try.func41, Try.ntmps41
  go_wp2_with fail
  refine wp_region_held_drew (S := (fun Z => Z.cell? ⟨v, 0, none⟩ = some (.pointer (some ⟨b, 0, none⟩)) ∧ Z.cell? ⟨v, 1, none⟩ = some (.int .i64 x.each) ∧ Z.cell? ⟨v, 2, none⟩ = some (.int .i64 x.life) ∧ Z.cell? ⟨v, 3, none⟩ = some (.int .i64 x.era) ∧ v < Z.heap.size)) (by kernel_rfl) (by exact ⟨r0, r1, r2, r3, rs⟩) (fun hHeld => ?_)
  refine tkJ 0 24 rfl (by intro w; go_simp <;> with_reducible rfl) hHeld ?_; simp only [pqZ]
  refine tkJ 1 25 rfl (by intro w; go_simp <;> with_reducible rfl) hHeld ?_; simp only [pqZ]
  refine tkJ 2 26 rfl (by intro w; go_simp <;> with_reducible rfl) hHeld ?_; simp only [pqZ]
  refine tkI 3 27 rfl (by intro w hSw; obtain ⟨j0, j1, j2, j3, js⟩ := (hSw); go_simp <;> with_reducible rfl) hHeld ?_; simp only [pqZ]
  refine tkJ 4 28 rfl (by intro w; go_simp <;> with_reducible rfl) hHeld ?_; simp only [pqZ]
  refine tkJ 5 29 rfl (by intro w; go_simp <;> with_reducible rfl) hHeld ?_; simp only [pqZ]
  refine tkJ 6 30 rfl (by intro w; go_simp <;> with_reducible rfl) hHeld ?_; simp only [pqZ]
  refine tkI 7 31 rfl (by intro w hSw; obtain ⟨j0, j1, j2, j3, js⟩ := (hSw); go_simp <;> with_reducible rfl) hHeld ?_; simp only [pqZ]
  refine tkJ 8 32 rfl (by intro w; go_simp <;> with_reducible rfl) hHeld ?_; simp only [pqZ]
  refine tkJ 9 33 rfl (by intro w; go_simp <;> with_reducible rfl) hHeld ?_; simp only [pqZ]
  refine tkJ 10 34 rfl (by intro w; go_simp <;> with_reducible rfl) hHeld ?_; simp only [pqZ]
  refine tkI 11 35 rfl (by intro w hSw; obtain ⟨j0, j1, j2, j3, js⟩ := (hSw); go_simp <;> with_reducible rfl) hHeld ?_; simp only [pqZ]
  refine tkJ 12 36 rfl (by intro w; go_simp <;> with_reducible rfl) hHeld ?_; simp only [pqZ]
  refine tkJ 13 37 rfl (by intro w; go_simp <;> with_reducible rfl) hHeld ?_; simp only [pqZ]
  refine tkJ 14 38 rfl (by intro w; go_simp <;> with_reducible rfl) hHeld ?_; simp only [pqZ]
  refine tkI 15 39 rfl (by intro w hSw; obtain ⟨j0, j1, j2, j3, js⟩ := (hSw); go_simp <;> with_reducible rfl) hHeld ?_; simp only [pqZ]
  refine tkJ 16 40 rfl (by intro w; go_simp <;> with_reducible rfl) hHeld ?_; simp only [pqZ]
  refine tkJ 17 41 rfl (by intro w; go_simp <;> with_reducible rfl) hHeld ?_; simp only [pqZ]
  refine rdZ 18 42 rfl (by kernel_rfl) (fun K hK => ?_)
  go_simp
  refine HSV.out.mono ?_
  rintro e w1' ⟨rfl, R', hv1, hc1⟩
  have hc1 : ChgL (blkR b A X.C.length c) w w1' := (ChgL.of_below (l := blkR b A X.C.length c) (Below.refl _ w).drew).trans hc1 (fun y hy => .inl hy)
  have hv2 := (hc1.block v rs HNM.out).trans HVB.out
  have HV1 := Lib.hid hv1
  have HC1 := Lib.hid hc1
  have HV2 := Lib.hid hv2
  have HS1 := Lib.hid (HRY.out.far hc1 (not_mem_type HTY.out HRY.out.blk (by decide)) (fun y hy => HAP.out y hy))
  have hKeep : (fun Z => Z.cell? ⟨v, 0, none⟩ = some (.pointer (some ⟨b, 0, none⟩)) ∧ Z.cell? ⟨v, 1, none⟩ = some (.int .i64 x.each) ∧ Z.cell? ⟨v, 2, none⟩ = some (.int .i64 x.life) ∧ Z.cell? ⟨v, 3, none⟩ = some (.int .i64 x.era) ∧ v < Z.heap.size) w1' := ⟨(box_cells' hv2 0).1, (box_cells' hv2 1).1, (box_cells' hv2 2).1, (box_cells' hv2 3).1, (box_cells' hv2 0).2.2⟩
  clear hv1 hc1 hv2 p0 p1 p2 p3 p4 ps r0 r1 r2 r3 r6 rs HSV
  go_wp2_with fail
  refine hK.out _ _ (by (try dsimp only); exact hKeep) (fun hHeld => ?_); clear hK K hKeep; try simp only [pqZ]
  refine tkJ 19 5 rfl (by intro w; go_simp <;> with_reducible rfl) hHeld ?_; simp only [pqZ]
  refine wpAnyH_done (by kernel_rfl) ?_ _
  have rs1 := (box_cells' HV2.out 0).2.2
  have q6 : w1'.cell? ⟨v, 6, none⟩ = some (.bool x.dead) := (box_cells' HV2.out 6).1
  have f6 := (box_cells' HV2.out 6).2.1
  go_wp2_with fail
  go_ret
  have hcv : ChgL [v] w1' (w1'.setCell ⟨v, 6, none⟩ (.bool (z == 9))) := ChgL.set (l := [v]) (b := v) 6 _ (by simp)
  have hoR : ∀ y ∈ [v], (Value.slice A X1.C.length c).ownBlock ≠ some y := fun y hy => by rw [List.mem_singleton] at hy; rw [hy]; exact own_type HV1.out.own HV2.out (by decide)
  have hoS : ∀ y ∈ [v], (x.sc.row A2 c2).ownBlock ≠ some y := fun y hy => by rw [List.mem_singleton] at hy; rw [hy]; exact own_type HS1.out.own HV2.out (by decide)
  have hnb : ∀ {n : Nat} {cs : Array Value} {T : TypeId} {zz : Nat × Nat}, w1'.heap[n]? = some (.cells cs T zz) → T ≠ 91 → n ∉ [v] := fun {n cs T zz} hn hT hm => by
    rw [List.mem_singleton] at hm
    rw [hm, HV2.out] at hn
    injection hn with hn
    injection hn with _ hn
    exact hT hn.symm
  exact ⟨rfl, R', HV1.out.far hcv (hnb HV1.out.blk (by decide)) hoR (fun y hy => by rw [List.mem_singleton] at hy; rw [hy]; exact ⟨_, _, _, HV2.out, by decide, by decide⟩), HS1.out.far hcv (hnb HS1.out.blk (by decide)) hoS, set_blk (i := 6) (.bool (z == 9)) HV2.out, (HC1.out.mono (fun y hy => List.mem_cons_of_mem _ hy)).trans hcv (m := [v]) (l := v :: blkR b A X.C.length c) (fun y hy => .inl (by rw [List.mem_singleton] at hy; rw [hy]; exact List.mem_cons_self ..))⟩
end
end Go.Proofs.Ytiggcpfmmgmncaa
