import Derived.Test.YtiggcpfmmgmncaaVa29
section
namespace Go.Proofs.Ytiggcpfmmgmncaa
open Go.ChangeShapes Go.WideShapes Go.ChangeAt Go.RowKit
set_option linter.unusedVariables false
set_option linter.unusedSimpArgs false

section
variable {B v h s b c k : Nat} {A SA : Option Addr} {R : List (RowS Nat)} {x : Vv}
theorem VaA.got {w : World} (hv : VaA B w v h s b A c R SA k x) : w.cell? ⟨v, 0, none⟩ = some (.pointer (some ⟨h, 0, none⟩)) ∧ v < w.heap.size ∧ w.cell? ⟨h, 0, none⟩ = some (.pointer (some ⟨s, 0, none⟩)) ∧ w.cell? ⟨h, 1, none⟩ = some (.pointer (some ⟨b, 0, none⟩)) ∧ w.cell? ⟨h, 2, none⟩ = some (.int .i64 x.each) ∧
    w.cell? ⟨h, 3, none⟩ = some (.int .i64 x.life) ∧ w.cell? ⟨h, 4, none⟩ = some (.int .i64 x.era) ∧ w.cell? ⟨h, 5, none⟩ = some (.slice SA x.state.length k) ∧ w.cell? ⟨h, 6, none⟩ = some (.bool x.dead) ∧ h < w.heap.size :=
  ⟨(box_cells hv.vb 0).1, (box_cells hv.vb 0).2.2, (box_cells hv.hb 0).1, (box_cells hv.hb 1).1, (box_cells hv.hb 2).1, (box_cells hv.hb 3).1, (box_cells hv.hb 4).1, (box_cells hv.hb 5).1, (box_cells hv.hb 6).1, (box_cells hv.hb 0).2.2⟩
end
set_option maxHeartbeats 2000000 in
set_option maxRecDepth 100000 in
theorem vfit_eq {B v h s b c k : Nat} {A SA : Option Addr} {R : List (RowS Nat)} {x : Vv} (w : World) (hv : VaA B w v h s b A c R SA k x) :
    Calls Try.prog 76 #[.pointer (some ⟨v, 0, none⟩)] w fun e w' => e = .returned (.bool true) ∧ w' = w := by
  obtain ⟨pv, pvs, p0, p1, p2, p3, p4, p5, p6, phs⟩ := hv.got
  clear hv
  go_enter Try.func76, Try.ntmps76
  go_wp2_with fail
  go_ret
  exact ⟨rfl, rfl⟩
set_option maxHeartbeats 2000000 in
set_option maxRecDepth 100000 in
theorem vera_eq {B v h s b c k : Nat} {A SA : Option Addr} {R : List (RowS Nat)} {x : Vv} (w : World) (hv : VaA B w v h s b A c R SA k x) :
    Calls Try.prog 42 #[.pointer (some ⟨v, 0, none⟩)] w fun e w' => e = .returned (.int .i64 x.era) ∧ w' = w := by
  have HFT := Lib.hid (vfit_eq w hv)
  obtain ⟨pv, pvs, p0, p1, p2, p3, p4, p5, p6, phs⟩ := hv.got
  clear hv
  go_enter Try.func42, Try.ntmps42
  go_wp2_with fail
  refine HFT.out.mono ?_
  rintro e w1 ⟨rfl, rfl⟩
  go_wp2_with fail
  go_ret
  exact ⟨rfl, rfl⟩
set_option maxHeartbeats 2000000 in
set_option maxRecDepth 100000 in
theorem vrecords_any {B v h s b c k : Nat} {A SA : Option Addr} {R : List (RowS Nat)} {x : Vv} (w : World) (hv : VaA B w v h s b A c R SA k x) (hl : ∀ r ∈ R, r.l.length ≤ 100000) :
    Calls Try.prog 46 #[.pointer (some ⟨v, 0, none⟩)] w fun e w' => (∃ (A' : Option Addr) (c' : Nat) (S : List (RowS Nat)), e = .returned (.slice A' S.length c') ∧ w'.ownsRow w.heap.size 36 1 (.slice A' S.length c') S.length (rc RowS.cells S) ∧ S.map RowS.l = x.sc.L ∧ OwnR w.heap.size w' S) ∧ Below w.heap.size w w' := by
  have HFT := Lib.hid (vfit_eq w hv)
  have HRC := Lib.hid (srecords_any w hv.sc hl)
  obtain ⟨pv, pvs, p0, p1, p2, p3, p4, p5, p6, phs⟩ := hv.got
  clear hv hl
  go_enter Try.func46, Try.ntmps46
  go_wp2_with fail
  refine HFT.out.mono ?_
  rintro e w1 ⟨rfl, rfl⟩
  go_wp2_with fail
  refine HRC.out.mono ?_
  rintro e w2 ⟨⟨A2, c2, S2, rfl, own2, hm2, or2⟩, hb2⟩
  go_wp2_with fail
  go_ret
  exact ⟨⟨A2, c2, S2, rfl, own2, hm2, or2⟩, hb2⟩
set_option maxHeartbeats 2000000 in
set_option maxRecDepth 100000 in
theorem vstate_any {B v h s b c k : Nat} {A SA : Option Addr} {R : List (RowS Nat)} {x : Vv} (w : World) (hv : VaA B w v h s b A c R SA k x) :
    Calls Try.prog 45 #[.pointer (some ⟨v, 0, none⟩)] w fun e w' => (∃ (A' : Option Addr) (c' : Nat), e = .returned (.tuple #[.slice A' (if x.era = 0 then [] else x.state).length c', .bool (!decide (x.era = 0))]) ∧ w'.ownsRow w.heap.size 5 1 (.slice A' (if x.era = 0 then [] else x.state).length c') (if x.era = 0 then [] else x.state).length (by8 (if x.era = 0 then [] else x.state))) ∧ Below w.heap.size w w' := by
  have HFT := Lib.hid (vfit_eq w hv)
  have HCL := Lib.hid (clone8_any SA k x.state w (by have := hv.small; omega) (Sl.of_own hv.st))
  obtain ⟨pv, pvs, p0, p1, p2, p3, p4, p5, p6, phs⟩ := hv.got
  clear hv
  by_cases he : x.era = 0
  · rw [if_pos he, decide_eq_true he]
    have he2 : (x.era == 0) = true := by simpa using he
    clear he
    go_enter Try.func45, Try.ntmps45
    go_wp2_with fail
    refine HFT.out.mono ?_
    rintro e w1 ⟨rfl, rfl⟩
    go_wp2_with fail
    go_ret2
    exact ⟨⟨none, 0, rfl, own_nil _ _ _⟩, Below.refl _ _⟩
  · rw [if_neg he, decide_eq_false he]
    have he2 : (x.era == 0) = false := by simpa using he
    clear he
    go_enter Try.func45, Try.ntmps45
    go_wp2_with fail
    refine HFT.out.mono ?_
    rintro e w1 ⟨rfl, rfl⟩
    go_wp2_with fail
    refine HCL.out.mono ?_
    rintro e w2 ⟨⟨A2, c2, rfl, own2⟩, hb2⟩
    go_wp2_with fail
    go_ret2
    exact ⟨⟨A2, c2, rfl, own2⟩, hb2⟩
theorem newest_ge {S : List (List Nat)} {f : Nat} : ∀ {k i : Nat} {x : Fr}, i < k → frD S ((f + i : Nat) : Int) = some x → x.life ≤ newestN S f k
  | 0, i, x, h, _ => absurd h (Nat.not_lt_zero _)
  | k + 1, i, x, h, hx => by
    unfold newestN
    by_cases e : i = k
    · subst e
      rw [hx]
      simp only
      split <;> omega
    · have ih := newest_ge (k := k) (by omega) hx
      split
      · exact ih
      · rename_i y hy
        split <;> omega
theorem newest_all {S : List (List Nat)} (i : Int) (x : Fr) (hx : frD S i = some x) : x.life ≤ newestN S 0 S.length := by
  obtain ⟨h0, h1, _, _⟩ := frD_some hx
  have e : i = ((0 + i.toNat : Nat) : Int) := by omega
  rw [e] at hx
  exact newest_ge (by omega) hx
theorem loadS_z (S : List (List Nat)) (p each : Nat) : (loadS S p each).2.2 = 0 ∨ (loadS S p each).2.2 = 11 := by
  unfold loadS
  split
  · right; rfl
  · left; rfl
  · left; rfl
  · split <;> (left; rfl)
theorem standF_len {S : List (List Nat)} {p each odd : Nat} {m : Int} {l : List Nat} (h : standF S p each odd = some (m, l)) : l.length ≤ 20400 := by
  unfold standF at h
  split at h
  · cases h
  · rename_i b f hr
    split at h
    · injection h with h
      injection h with _ h
      rw [← h]
      exact readF_len hr
    · cases h
theorem loadS_bd (S : List (List Nat)) (p each : Nat) : 0 ≤ (loadS S p each).1 ∧ (loadS S p each).1 ≤ 16777215 ∧ (loadS S p each).2.1.length ≤ 20400 ∧ ((loadS S p each).1 = 0 → (loadS S p each).2.1 = []) := by
  unfold loadS
  split
  · exact ⟨Int.le_refl 0, by show (0 : Int) ≤ 16777215; decide, by show (0 : Nat) ≤ 20400; decide, fun _ => rfl⟩
  · rename_i m l h1 h2
    have := standF_pos h1
    exact ⟨by show 0 ≤ m; omega, by show m ≤ _; omega, standF_len h1, fun h => by simp only at h; omega⟩
  · rename_i m l h1 h2
    have := standF_pos h2
    exact ⟨by show 0 ≤ m; omega, by show m ≤ _; omega, standF_len h2, fun h => by simp only at h; omega⟩
  · rename_i m l n k h1 h2
    have g1 := standF_pos h1
    have g2 := standF_pos h2
    split
    · exact ⟨by show 0 ≤ n; omega, by show n ≤ _; omega, standF_len h2, fun h => by simp only at h; omega⟩
    · exact ⟨by show 0 ≤ m; omega, by show m ≤ _; omega, standF_len h1, fun h => by simp only at h; omega⟩
def openS (S : List (List Nat)) (each : Nat) (life era : Int) : Sc := ⟨2 * each, S.length, life, era, (scan S S.length era (2 * each) 0 0).1, (scan S S.length era (2 * each) 0 0).2 - 2 * each, false⟩
def openV (S : List (List Nat)) (each : Nat) : Vv := ⟨each, newestN S 0 S.length + 1, (loadS S 0 each).1, (loadS S 0 each).2.1, false, openS S each (newestN S 0 S.length + 1) (loadS S 0 each).1⟩
set_option maxHeartbeats 8000000 in
set_option maxRecDepth 100000 in
theorem vopen_ok {B b g kc : Nat} {K : Option Addr} {d : Dv} (each : Nat) (w : World) (hd : DrA B w b g K kc d) (hB : B ≤ w.heap.size) (h1 : 1 ≤ each) (h2 : 2 * each < d.S.length) (hnew : newestN d.S 0 d.S.length < 16777214) :
    Calls Try.prog 36 #[.pointer (some ⟨b, 0, none⟩), .int .i64 each] w fun e w' => ∃ v h s A' c' R' SA k, e = .returned (.tuple #[.pointer (some ⟨v, 0, none⟩), .int .i64 0]) ∧ VaA B w' v h s b A' c' R' SA k (openV d.S each) ∧ Below w.heap.size w w' ∧ w.heap.size ≤ v ∧ w.heap.size ≤ h ∧ w.heap.size ≤ s ∧ (∀ k, (Sc.row (openV d.S each).sc A' c').ownBlock = some k → w.heap.size ≤ k) := by
  have hlen := hd.len
  have hbd := newestN_bd d.S 0 d.S.length
  have hld := loadS_bd d.S 0 each
  have hldw := loadS_z d.S 0 each
  have HSZ := Lib.hid (dsize_eq w hd)
  have HNW := Lib.hid (snewest_ok 0 d.S.length w hd (Nat.zero_le _) (Nat.le_refl _))
  have HLD := Lib.hid (fun V (hV : Below w.heap.size w V) => sload_any 0 each V (hd.below hV) (by omega) h1)
  have HTN := Lib.hid (fun (h l0 e0 : Nat) (st : Value) (V : World) (hV : Below w.heap.size w V) (hh : V.heap[h]? = some (.cells (shC (.pointer none) b each 0 0 st false) 123 (0, 0))) => vturn_any (newestN d.S 0 d.S.length + 1) (loadS d.S 0 each).1 V (hd.below hV) hh (Nat.le_trans hB hV.size) (by omega) (by omega) (by omega) (by omega) (by omega) (by have := newest_le hbd.1 (fun i f hf => newest_all i f hf) (2 * each) (d.S.length - 2 * each); omega))
  obtain ⟨V0, hV0⟩ : ∃ V0, openV d.S each = V0 := ⟨_, rfl⟩
  have hv1 : V0.each = each := by rw [← hV0]; rfl
  have hv2 : V0.life = newestN d.S 0 d.S.length + 1 := by rw [← hV0]; rfl
  have hv3 : V0.era = (loadS d.S 0 each).1 := by rw [← hV0]; rfl
  have hv4 : V0.state = (loadS d.S 0 each).2.1 := by rw [← hV0]; rfl
  have hv5 : V0.dead = false := by rw [← hV0]; rfl
  have hv6 : V0.sc = ⟨2 * each, d.S.length, newestN d.S 0 d.S.length + 1, (loadS d.S 0 each).1, (scan d.S d.S.length (loadS d.S 0 each).1 (2 * each) 0 0).1, (scan d.S d.S.length (loadS d.S 0 each).1 (2 * each) 0 0).2 - 2 * each, false⟩ := by rw [← hV0]; rfl
  rw [hV0]
  obtain ⟨n, hn⟩ : ∃ n, d.S.length = n := ⟨_, rfl⟩
  rw [hn] at HSZ HNW HTN hlen hbd h2 hnew hv2 hv6
  simp only [Nat.sub_zero] at HNW
  obtain ⟨nw, hnw⟩ : ∃ nw, newestN d.S 0 n = nw := ⟨_, rfl⟩
  rw [hnw] at HNW HTN hbd hnew hv2 hv6
  obtain ⟨⟨er, ST, z⟩, hL⟩ : ∃ L, loadS d.S 0 each = L := ⟨_, rfl⟩
  rw [hL] at HLD HTN hld hldw hv3 hv4 hv6
  simp only at HTN hld hldw hv3 hv4 hv6
  have n1 : ((n : Int) == 0) = false := by simpa using (by omega : (n : Int) ≠ 0)
  have n2 : ¬ (each : Int) < 1 := by omega
  have n2' : decide ((each : Int) < 1) = false := decide_eq_false n2
  have hwq : IntKind.i64.wrap ((n : Int) - 1) = (n : Int) - 1 := by rw [IntKind.wrap_i64]; omega
  have hwd : Int.tdiv ((n : Int) - 1) 2 = (((n - 1) / 2 : Nat) : Int) := by
    rw [show (n : Int) - 1 = ((n - 1 : Nat) : Int) by omega]; rfl
  have hwe : IntKind.i64.wrap ((((n - 1) / 2 : Nat) : Int)) = (((n - 1) / 2 : Nat) : Int) := by rw [IntKind.wrap_i64]; omega
  obtain ⟨hf, hhf⟩ : ∃ hf, (n - 1) / 2 = hf := ⟨_, rfl⟩
  rw [hhf] at hwd hwe
  have n3 : ¬ (hf : Int) < (each : Int) := by omega
  have n3' : decide ((hf : Int) < (each : Int)) = false := decide_eq_false n3
  have n4 : ¬ (16777214 : Int) ≤ nw := by omega
  have hwl : IntKind.i64.wrap (nw + 1) = nw + 1 := by rw [IntKind.wrap_i64]; omega
  have n5 : z = 0 ∨ z = 11 := hldw
  have HBB := Lib.hid hB
  have HV := Lib.hid (show V0.each = each ∧ V0.life = nw + 1 ∧ V0.era = er ∧ V0.state = ST ∧ V0.dead = false ∧ V0.sc = ⟨2 * each, n, nw + 1, er, (scan d.S n er (2 * each) 0 0).1, (scan d.S n er (2 * each) 0 0).2 - 2 * each, false⟩ from ⟨hv1, hv2, hv3, hv4, hv5, hv6⟩)
  have HBD := Lib.hid (show each ≤ 1024 ∧ ST.length ≤ 20400 ∧ 0 ≤ nw ∧ nw < 16777214 ∧ 0 ≤ er ∧ er ≤ 16777215 by omega)
  clear hv1 hv2 hv3 hv4 hv5 hv6 hV0 hn hnw hL hd hB h1 h2 hnew hld hldw hbd hlen hhf
  go_enter Try.func36, Try.ntmps36
  go_wp2_with fail
  refine HSZ.out.mono ?_
  rintro e w1 ⟨rfl, rfl⟩
  go_wp2_with fail
  refine HNW.out.mono ?_
  rintro e w2 ⟨rfl, hb2⟩
  have HB2 := Lib.hid hb2
  clear hb2
  go_wp2_with fail
  refine (HLD.out _ HB2.out).mono ?_
  rintro e x3 ⟨⟨A3, c3, rfl, own3⟩, hb3⟩
  have HB3 := Lib.hid (since_step HB2.out hb3)
  have HO3 := Lib.hid (own_base own3 HB2.out.size)
  clear own3 hb3
  simp only at HO3 ⊢
  have HTX := Lib.hid (HTN.out x3.heap.size 0 0 (.slice A3 ST.length c3) (x3.alloc (.cells #[.pointer none, .pointer (some ⟨b, 0, none⟩), .int .i64 each, .int .i64 0, .int .i64 0, .slice A3 ST.length c3, .bool false] 123)) (since_alloc HB3.out _) (by rw [heap_alloc_new]; rfl))
  have HBX := Lib.hid (since_alloc HB3.out (.cells #[.pointer none, .pointer (some ⟨b, 0, none⟩), .int .i64 each, .int .i64 0, .int .i64 0, .slice A3 ST.length c3, .bool false] 123))
  clear HTN
  rcases n5 with rfl | rfl
  · go_wp2_with fail
    refine HTX.out.mono ?_
    rintro e x4 ⟨s, A, c, R, rfl, hh4, hs4, hc4, hsz4, hrow4⟩
    have hb4 : Below w1.heap.size w1 x4 := HBX.out.trans (hc4.below HBX.out.size (fun y hy => by rw [List.mem_singleton] at hy; rw [hy]; exact HB3.out.size))
    have ho4 : x4.ownsRow w1.heap.size 5 1 (.slice A3 ST.length c3) ST.length (by8 ST) := own_box (HO3.out.alloc _) (by rw [heap_alloc_new]) (by decide) hc4
    have hsz5 : w1.heap.size ≤ s := Nat.le_trans HBX.out.size hsz4
    have hrow5 := fun k hk => Nat.le_trans HBX.out.size (hrow4 k hk)
    have HH4 := Lib.hid hh4
    have HS4 := Lib.hid hs4
    have HB4 := Lib.hid hb4
    have HO4 := Lib.hid ho4
    have HZ5 := Lib.hid hsz5
    have HR5 := Lib.hid hrow5
    clear hh4 hs4 hb4 ho4 hsz5 hrow5 hc4 hsz4 hrow4
    go_wp2_with fail
    go_ret2
    obtain ⟨v1, v2, v3, v4, v5, v6⟩ := HV.out
    refine ⟨x4.heap.size, x3.heap.size, s, A, c, R, A3, c3, rfl, ⟨?_, ?_, ?_, ?_, ?_, ?_⟩, since_alloc HB4.out _, HB4.out.size, HB3.out.size, HZ5.out, ?_⟩
    · rw [heap_alloc_new]
    · rw [v1, v2, v3, v4, v5, (since_alloc (Below.refl _ x4) _).block _ (Array.getElem?_eq_some_iff.1 HH4.out).1]; exact HH4.out
    · rw [v6]; exact HS4.out.below (since_alloc (Below.refl _ x4) _)
    · rw [v4]; exact own_base (HO4.out.alloc _) HBB.out
    · exact ⟨Nat.le_trans HBB.out HB4.out.size, Nat.le_trans HBB.out HB3.out.size⟩
    · rw [v1, v2, v3, v4]; have := HBD.out; omega
    · rw [v6]; exact HR5.out
  · go_wp2_with fail
    refine HTX.out.mono ?_
    rintro e x4 ⟨s, A, c, R, rfl, hh4, hs4, hc4, hsz4, hrow4⟩
    have hb4 : Below w1.heap.size w1 x4 := HBX.out.trans (hc4.below HBX.out.size (fun y hy => by rw [List.mem_singleton] at hy; rw [hy]; exact HB3.out.size))
    have ho4 : x4.ownsRow w1.heap.size 5 1 (.slice A3 ST.length c3) ST.length (by8 ST) := own_box (HO3.out.alloc _) (by rw [heap_alloc_new]) (by decide) hc4
    have hsz5 : w1.heap.size ≤ s := Nat.le_trans HBX.out.size hsz4
    have hrow5 := fun k hk => Nat.le_trans HBX.out.size (hrow4 k hk)
    have HH4 := Lib.hid hh4
    have HS4 := Lib.hid hs4
    have HB4 := Lib.hid hb4
    have HO4 := Lib.hid ho4
    have HZ5 := Lib.hid hsz5
    have HR5 := Lib.hid hrow5
    clear hh4 hs4 hb4 ho4 hsz5 hrow5 hc4 hsz4 hrow4
    go_wp2_with fail
    go_ret2
    obtain ⟨v1, v2, v3, v4, v5, v6⟩ := HV.out
    refine ⟨x4.heap.size, x3.heap.size, s, A, c, R, A3, c3, rfl, ⟨?_, ?_, ?_, ?_, ?_, ?_⟩, since_alloc HB4.out _, HB4.out.size, HB3.out.size, HZ5.out, ?_⟩
    · rw [heap_alloc_new]
    · rw [v1, v2, v3, v4, v5, (since_alloc (Below.refl _ x4) _).block _ (Array.getElem?_eq_some_iff.1 HH4.out).1]; exact HH4.out
    · rw [v6]; exact HS4.out.below (since_alloc (Below.refl _ x4) _)
    · rw [v4]; exact own_base (HO4.out.alloc _) HBB.out
    · exact ⟨Nat.le_trans HBB.out HB4.out.size, Nat.le_trans HBB.out HB3.out.size⟩
    · rw [v1, v2, v3, v4]; have := HBD.out; omega
    · rw [v6]; exact HR5.out
end Go.Proofs.Ytiggcpfmmgmncaa
end
