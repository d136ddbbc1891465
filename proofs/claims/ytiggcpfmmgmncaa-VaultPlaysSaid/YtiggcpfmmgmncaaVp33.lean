import Derived.Test.YtiggcpfmmgmncaaVp32
import Derived.Test.YtiggcpfmmgmncaaVp31
set_option maxHeartbeats 16000000
set_option maxRecDepth 100000
set_option linter.unusedVariables false
set_option linter.unusedSimpArgs false
namespace Go.Proofs.Ytiggcpfmmgmncaa
open Go.ChangeShapes Go.WideShapes Go.ChangeAt Go.RowKit
section
section
variable {B v h s b c k : Nat} {A SA : Option Addr} {R : List (RowS Nat)} {x : Vv}
theorem VaA.got {w : World} (hv : VaA B w v h s b A c R SA k x) : w.cell? ⟨v, 0, none⟩ = some (.pointer (some ⟨h, 0, none⟩)) ∧ v < w.heap.size ∧ w.cell? ⟨h, 0, none⟩ = some (.pointer (some ⟨s, 0, none⟩)) ∧ w.cell? ⟨h, 1, none⟩ = some (.pointer (some ⟨b, 0, none⟩)) ∧ w.cell? ⟨h, 2, none⟩ = some (.int .i64 x.each) ∧
    w.cell? ⟨h, 3, none⟩ = some (.int .i64 x.life) ∧ w.cell? ⟨h, 4, none⟩ = some (.int .i64 x.era) ∧ w.cell? ⟨h, 5, none⟩ = some (.slice SA x.state.length k) ∧ w.cell? ⟨h, 6, none⟩ = some (.bool x.dead) ∧ h < w.heap.size :=
  ⟨(box_cells hv.vb 0).1, (box_cells hv.vb 0).2.2, (box_cells hv.hb 0).1, (box_cells hv.hb 1).1, (box_cells hv.hb 2).1, (box_cells hv.hb 3).1, (box_cells hv.hb 4).1, (box_cells hv.hb 5).1, (box_cells hv.hb 6).1, (box_cells hv.hb 0).2.2⟩
end
theorem vfit_eq {B v h s b c k : Nat} {A SA : Option Addr} {R : List (RowS Nat)} {x : Vv} (w : World) (hv : VaA B w v h s b A c R SA k x) :
    Calls Try.prog 76 #[.pointer (some ⟨v, 0, none⟩)] w fun e w' => e = .returned (.bool true) ∧ w' = w := by
  obtain ⟨pv, pvs, p0, p1, p2, p3, p4, p5, p6, phs⟩ := hv.got
  clear hv
  go_enter Try.func76, Try.ntmps76
  go_wp2_with fail
  go_ret
  exact ⟨rfl, rfl⟩
theorem vera_eq {B v h s b c k : Nat} {A SA : Option Addr} {R : List (RowS Nat)} {x : Vv} (w : World) (hv : VaA B w v h s b A c R SA k x) :
    Calls Try.prog 42 #[.pointer (some ⟨v, 0, none⟩)] w fun e w' => e = .returned (.int .i64 x.era) ∧ w' = w := by
  have HFT := Lib.hid (vfit_eq w hv)
  obtain ⟨pv, pvs, p0, p1, p2, p3, p4, p5, p6, phs⟩ := hv.got
  clear hv
  go_enter Try.func42, Try.ntmps42
  go_wp2_with fail
  refine HFT.out.mono ?_
  rintro e w1 ⟨rfl, rfl⟩
  go_wp2_with fail
  go_ret
  exact ⟨rfl, rfl⟩
theorem vrecords_any {B v h s b c k : Nat} {A SA : Option Addr} {R : List (RowS Nat)} {x : Vv} (w : World) (hv : VaA B w v h s b A c R SA k x) (hl : ∀ r ∈ R, r.l.length ≤ 100000) :
    Calls Try.prog 46 #[.pointer (some ⟨v, 0, none⟩)] w fun e w' => (∃ (A' : Option Addr) (c' : Nat) (S : List (RowS Nat)), e = .returned (.slice A' S.length c') ∧ w'.ownsRow w.heap.size 36 1 (.slice A' S.length c') S.length (rc RowS.cells S) ∧ S.map RowS.l = x.sc.L ∧ OwnR w.heap.size w' S) ∧ Below w.heap.size w w' := by
  have HFT := Lib.hid (vfit_eq w hv)
  have HRC := Lib.hid (srecords_any w hv.sc hl)
  obtain ⟨pv, pvs, p0, p1, p2, p3, p4, p5, p6, phs⟩ := hv.got
  clear hv hl
  go_enter Try.func46, Try.ntmps46
  go_wp2_with fail
  refine HFT.out.mono ?_
  rintro e w1 ⟨rfl, rfl⟩
  go_wp2_with fail
  refine HRC.out.mono ?_
  rintro e w2 ⟨⟨A2, c2, S2, rfl, own2, hm2, or2⟩, hb2⟩
  go_wp2_with fail
  go_ret
  exact ⟨⟨A2, c2, S2, rfl, own2, hm2, or2⟩, hb2⟩
theorem vstate_any {B v h s b c k : Nat} {A SA : Option Addr} {R : List (RowS Nat)} {x : Vv} (w : World) (hv : VaA B w v h s b A c R SA k x) :
    Calls Try.prog 45 #[.pointer (some ⟨v, 0, none⟩)] w fun e w' => (∃ (A' : Option Addr) (c' : Nat), e = .returned (.tuple #[.slice A' (if x.era = 0 then [] else x.state).length c', .bool (!decide (x.era = 0))]) ∧ w'.ownsRow w.heap.size 5 1 (.slice A' (if x.era = 0 then [] else x.state).length c') (if x.era = 0 then [] else x.state).length (by8 (if x.era = 0 then [] else x.state))) ∧ Below w.heap.size w w' := by
  have HFT := Lib.hid (vfit_eq w hv)
  have HCL := Lib.hid (clone8_any SA k x.state w (by have := hv.small; omega) (Sl.of_own hv.st))
  obtain ⟨pv, pvs, p0, p1, p2, p3, p4, p5, p6, phs⟩ := hv.got
  clear hv
  by_cases he : x.era = 0
  · rw [if_pos he, decide_eq_true he]
    have he2 : (x.era == 0) = true := by simpa using he
    clear he
    go_enter Try.func45, Try.ntmps45
    go_wp2_with fail
    refine HFT.out.mono ?_
    rintro e w1 ⟨rfl, rfl⟩
    go_wp2_with fail
    go_ret2
    exact ⟨⟨none, 0, rfl, own_nil _ _ _⟩, Below.refl _ _⟩
  · rw [if_neg he, decide_eq_false he]
    have he2 : (x.era == 0) = false := by simpa using he
    clear he
    go_enter Try.func45, Try.ntmps45
    go_wp2_with fail
    refine HFT.out.mono ?_
    rintro e w1 ⟨rfl, rfl⟩
    go_wp2_with fail
    refine HCL.out.mono ?_
    rintro e w2 ⟨⟨A2, c2, rfl, own2⟩, hb2⟩
    go_wp2_with fail
    go_ret2
    exact ⟨⟨A2, c2, rfl, own2⟩, hb2⟩
theorem newest_ge {S : List (List Nat)} {f : Nat} : ∀ {k i : Nat} {x : Fr}, i < k → frD S ((f + i : Nat) : Int) = some x → x.life ≤ newestN S f k
  | 0, i, x, h, _ => absurd h (Nat.not_lt_zero _)
  | k + 1, i, x, h, hx => by
    unfold newestN
    by_cases e : i = k
    · subst e
      rw [hx]
      simp only
      split <;> omega
    · have ih := newest_ge (k := k) (by omega) hx
      split
      · exact ih
      · rename_i y hy
        split <;> omega
theorem newest_all {S : List (List Nat)} (i : Int) (x : Fr) (hx : frD S i = some x) : x.life ≤ newestN S 0 S.length := by
  obtain ⟨h0, h1, _, _⟩ := frD_some hx
  have e : i = ((0 + i.toNat : Nat) : Int) := by omega
  rw [e] at hx
  exact newest_ge (by omega) hx
theorem loadS_z (S : List (List Nat)) (p each : Nat) : (loadS S p each).2.2 = 0 ∨ (loadS S p each).2.2 = 11 := by
  unfold loadS
  split
  · right; rfl
  · left; rfl
  · left; rfl
  · split <;> (left; rfl)
theorem standF_len {S : List (List Nat)} {p each odd : Nat} {m : Int} {l : List Nat} (h : standF S p each odd = some (m, l)) : l.length ≤ 20400 := by
  unfold standF at h
  split at h
  · cases h
  · rename_i b f hr
    split at h
    · injection h with h
      injection h with _ h
      rw [← h]
      exact readF_len hr
    · cases h
theorem loadS_bd (S : List (List Nat)) (p each : Nat) : 0 ≤ (loadS S p each).1 ∧ (loadS S p each).1 ≤ 16777215 ∧ (loadS S p each).2.1.length ≤ 20400 ∧ ((loadS S p each).1 = 0 → (loadS S p each).2.1 = []) := by
  unfold loadS
  split
  · exact ⟨Int.le_refl 0, by show (0 : Int) ≤ 16777215; decide, by show (0 : Nat) ≤ 20400; decide, fun _ => rfl⟩
  · rename_i m l h1 h2
    have := standF_pos h1
    exact ⟨by show 0 ≤ m; omega, by show m ≤ _; omega, standF_len h1, fun h => by simp only at h; omega⟩
  · rename_i m l h1 h2
    have := standF_pos h2
    exact ⟨by show 0 ≤ m; omega, by show m ≤ _; omega, standF_len h2, fun h => by simp only at h; omega⟩
  · rename_i m l n k h1 h2
    have g1 := standF_pos h1
    have g2 := standF_pos h2
    split
    · exact ⟨by show 0 ≤ n; omega, by show n ≤ _; omega, standF_len h2, fun h => by simp only at h; omega⟩
    · exact ⟨by show 0 ≤ m; omega, by show m ≤ _; omega, standF_len h1, fun h => by simp only at h; omega⟩
def openS (S : List (List Nat)) (each : Nat) (life era : Int) : Sc := ⟨2 * each, S.length, life, era, (scan S S.length era (2 * each) 0 0).1, (scan S S.length era (2 * each) 0 0).2 - 2 * each, false⟩
def openV (S : List (List Nat)) (each : Nat) : Vv := ⟨each, newestN S 0 S.length + 1, (loadS S 0 each).1, (loadS S 0 each).2.1, false, openS S each (newestN S 0 S.length + 1) (loadS S 0 each).1⟩
theorem vopen_ok {B b g kc : Nat} {K : Option Addr} {d : Dv} (each : Nat) (w : World) (hd : DrA B w b g K kc d) (hB : B ≤ w.heap.size) (h1 : 1 ≤ each) (h2 : 2 * each < d.S.length) (hnew : newestN d.S 0 d.S.length < 16777214) :
    Calls Try.prog 36 #[.pointer (some ⟨b, 0, none⟩), .int .i64 each] w fun e w' => ∃ v h s A' c' R' SA k, e = .returned (.tuple #[.pointer (some ⟨v, 0, none⟩), .int .i64 0]) ∧ VaA B w' v h s b A' c' R' SA k (openV d.S each) ∧ Below w.heap.size w w' ∧ w.heap.size ≤ v ∧ w.heap.size ≤ h ∧ w.heap.size ≤ s ∧ (∀ k, (Sc.row (openV d.S each).sc A' c').ownBlock = some k → w.heap.size ≤ k) := by
  have hlen := hd.len
  have hbd := newestN_bd d.S 0 d.S.length
  have hld := loadS_bd d.S 0 each
  have hldw := loadS_z d.S 0 each
  have HSZ := Lib.hid (dsize_eq w hd)
  have HNW := Lib.hid (snewest_ok 0 d.S.length w hd (Nat.zero_le _) (Nat.le_refl _))
  have HLD := Lib.hid (fun V (hV : Below w.heap.size w V) => sload_any 0 each V (hd.below hV) (by omega) h1)
  have HTN := Lib.hid (fun (h l0 e0 : Nat) (st : Value) (V : World) (hV : Below w.heap.size w V) (hh : V.heap[h]? = some (.cells (shC (.pointer none) b each 0 0 st false) 123 (0, 0))) => vturn_any (newestN d.S 0 d.S.length + 1) (loadS d.S 0 each).1 V (hd.below hV) hh (Nat.le_trans hB hV.size) (by omega) (by omega) (by omega) (by omega) (by omega) (by have := newest_le hbd.1 (fun i f hf => newest_all i f hf) (2 * each) (d.S.length - 2 * each); omega))
  obtain ⟨V0, hV0⟩ : ∃ V0, openV d.S each = V0 := ⟨_, rfl⟩
  have hv1 : V0.each = each := by rw [← hV0]; rfl
  have hv2 : V0.life = newestN d.S 0 d.S.length + 1 := by rw [← hV0]; rfl
  have hv3 : V0.era = (loadS d.S 0 each).1 := by rw [← hV0]; rfl
  have hv4 : V0.state = (loadS d.S 0 each).2.1 := by rw [← hV0]; rfl
  have hv5 : V0.dead = false := by rw [← hV0]; rfl
  have hv6 : V0.sc = ⟨2 * each, d.S.length, newestN d.S 0 d.S.length + 1, (loadS d.S 0 each).1, (scan d.S d.S.length (loadS d.S 0 each).1 (2 * each) 0 0).1, (scan d.S d.S.length (loadS d.S 0 each).1 (2 * each) 0 0).2 - 2 * each, false⟩ := by rw [← hV0]; rfl
  rw [hV0]
  obtain ⟨n, hn⟩ : ∃ n, d.S.length = n := ⟨_, rfl⟩
  rw [hn] at HSZ HNW HTN hlen hbd h2 hnew hv2 hv6
  simp only [Nat.sub_zero] at HNW
  obtain ⟨nw, hnw⟩ : ∃ nw, newestN d.S 0 n = nw := ⟨_, rfl⟩
  rw [hnw] at HNW HTN hbd hnew hv2 hv6
  obtain ⟨⟨er, ST, z⟩, hL⟩ : ∃ L, loadS d.S 0 each = L := ⟨_, rfl⟩
  rw [hL] at HLD HTN hld hldw hv3 hv4 hv6
  simp only at HTN hld hldw hv3 hv4 hv6
  have n1 : ((n : Int) == 0) = false := by simpa using (by omega : (n : Int) ≠ 0)
  have n2 : ¬ (each : Int) < 1 := by omega
  have n2' : decide ((each : Int) < 1) = false := decide_eq_false n2
  have hwq : IntKind.i64.wrap ((n : Int) - 1) = (n : Int) - 1 := by rw [IntKind.wrap_i64]; omega
  have hwd : Int.tdiv ((n : Int) - 1) 2 = (((n - 1) / 2 : Nat) : Int) := by
    rw [show (n : Int) - 1 = ((n - 1 : Nat) : Int) by omega]; rfl
  have hwe : IntKind.i64.wrap ((((n - 1) / 2 : Nat) : Int)) = (((n - 1) / 2 : Nat) : Int) := by rw [IntKind.wrap_i64]; omega
  obtain ⟨hf, hhf⟩ : ∃ hf, (n - 1) / 2 = hf := ⟨_, rfl⟩
  rw [hhf] at hwd hwe
  have n3 : ¬ (hf : Int) < (each : Int) := by omega
  have n3' : decide ((hf : Int) < (each : Int)) = false := decide_eq_false n3
  have n4 : ¬ (16777214 : Int) ≤ nw := by omega
  have hwl : IntKind.i64.wrap (nw + 1) = nw + 1 := by rw [IntKind.wrap_i64]; omega
  have n5 : z = 0 ∨ z = 11 := hldw
  have HBB := Lib.hid hB
  have HV := Lib.hid (show V0.each = each ∧ V0.life = nw + 1 ∧ V0.era = er ∧ V0.state = ST ∧ V0.dead = false ∧ V0.sc = ⟨2 * each, n, nw + 1, er, (scan d.S n er (2 * each) 0 0).1, (scan d.S n er (2 * each) 0 0).2 - 2 * each, false⟩ from ⟨hv1, hv2, hv3, hv4, hv5, hv6⟩)
  have HBD := Lib.hid (show each ≤ 1024 ∧ ST.length ≤ 20400 ∧ 0 ≤ nw ∧ nw < 16777214 ∧ 0 ≤ er ∧ er ≤ 16777215 by omega)
  clear hv1 hv2 hv3 hv4 hv5 hv6 hV0 hn hnw hL hd hB h1 h2 hnew hld hldw hbd hlen hhf
  go_enter Try.func36, Try.ntmps36
  go_wp2_with fail
  refine HSZ.out.mono ?_
  rintro e w1 ⟨rfl, rfl⟩
  go_wp2_with fail
  refine HNW.out.mono ?_
  rintro e w2 ⟨rfl, hb2⟩
  have HB2 := Lib.hid hb2
  clear hb2
  go_wp2_with fail
  refine (HLD.out _ HB2.out).mono ?_
  rintro e x3 ⟨⟨A3, c3, rfl, own3⟩, hb3⟩
  have HB3 := Lib.hid (since_step HB2.out hb3)
  have HO3 := Lib.hid (own_base own3 HB2.out.size)
  clear own3 hb3
  simp only at HO3 ⊢
  have HTX := Lib.hid (HTN.out x3.heap.size 0 0 (.slice A3 ST.length c3) (x3.alloc (.cells #[.pointer none, .pointer (some ⟨b, 0, none⟩), .int .i64 each, .int .i64 0, .int .i64 0, .slice A3 ST.length c3, .bool false] 123)) (since_alloc HB3.out _) (by rw [heap_alloc_new]; rfl))
  have HBX := Lib.hid (since_alloc HB3.out (.cells #[.pointer none, .pointer (some ⟨b, 0, none⟩), .int .i64 each, .int .i64 0, .int .i64 0, .slice A3 ST.length c3, .bool false] 123))
  clear HTN
  rcases n5 with rfl | rfl
  · go_wp2_with fail
    refine HTX.out.mono ?_
    rintro e x4 ⟨s, A, c, R, rfl, hh4, hs4, hc4, hsz4, hrow4⟩
    have hb4 : Below w1.heap.size w1 x4 := HBX.out.trans (hc4.below HBX.out.size (fun y hy => by rw [List.mem_singleton] at hy; rw [hy]; exact HB3.out.size))
    have ho4 : x4.ownsRow w1.heap.size 5 1 (.slice A3 ST.length c3) ST.length (by8 ST) := own_box (HO3.out.alloc _) (by rw [heap_alloc_new]) (by decide) hc4
    have hsz5 : w1.heap.size ≤ s := Nat.le_trans HBX.out.size hsz4
    have hrow5 := fun k hk => Nat.le_trans HBX.out.size (hrow4 k hk)
    have HH4 := Lib.hid hh4
    have HS4 := Lib.hid hs4
    have HB4 := Lib.hid hb4
    have HO4 := Lib.hid ho4
    have HZ5 := Lib.hid hsz5
    have HR5 := Lib.hid hrow5
    clear hh4 hs4 hb4 ho4 hsz5 hrow5 hc4 hsz4 hrow4
    go_wp2_with fail
    go_ret2
    obtain ⟨v1, v2, v3, v4, v5, v6⟩ := HV.out
    refine ⟨x4.heap.size, x3.heap.size, s, A, c, R, A3, c3, rfl, ⟨?_, ?_, ?_, ?_, ?_, ?_⟩, since_alloc HB4.out _, HB4.out.size, HB3.out.size, HZ5.out, ?_⟩
    · rw [heap_alloc_new]
    · rw [v1, v2, v3, v4, v5, (since_alloc (Below.refl _ x4) _).block _ (Array.getElem?_eq_some_iff.1 HH4.out).1]; exact HH4.out
    · rw [v6]; exact HS4.out.below (since_alloc (Below.refl _ x4) _)
    · rw [v4]; exact own_base (HO4.out.alloc _) HBB.out
    · exact ⟨Nat.le_trans HBB.out HB4.out.size, Nat.le_trans HBB.out HB3.out.size⟩
    · rw [v1, v2, v3, v4]; have := HBD.out; omega
    · rw [v6]; exact HR5.out
  · go_wp2_with fail
    refine HTX.out.mono ?_
    rintro e x4 ⟨s, A, c, R, rfl, hh4, hs4, hc4, hsz4, hrow4⟩
    have hb4 : Below w1.heap.size w1 x4 := HBX.out.trans (hc4.below HBX.out.size (fun y hy => by rw [List.mem_singleton] at hy; rw [hy]; exact HB3.out.size))
    have ho4 : x4.ownsRow w1.heap.size 5 1 (.slice A3 ST.length c3) ST.length (by8 ST) := own_box (HO3.out.alloc _) (by rw [heap_alloc_new]) (by decide) hc4
    have hsz5 : w1.heap.size ≤ s := Nat.le_trans HBX.out.size hsz4
    have hrow5 := fun k hk => Nat.le_trans HBX.out.size (hrow4 k hk)
    have HH4 := Lib.hid hh4
    have HS4 := Lib.hid hs4
    have HB4 := Lib.hid hb4
    have HO4 := Lib.hid ho4
    have HZ5 := Lib.hid hsz5
    have HR5 := Lib.hid hrow5
    clear hh4 hs4 hb4 ho4 hsz5 hrow5 hc4 hsz4 hrow4
    go_wp2_with fail
    go_ret2
    obtain ⟨v1, v2, v3, v4, v5, v6⟩ := HV.out
    refine ⟨x4.heap.size, x3.heap.size, s, A, c, R, A3, c3, rfl, ⟨?_, ?_, ?_, ?_, ?_, ?_⟩, since_alloc HB4.out _, HB4.out.size, HB3.out.size, HZ5.out, ?_⟩
    · rw [heap_alloc_new]
    · rw [v1, v2, v3, v4, v5, (since_alloc (Below.refl _ x4) _).block _ (Array.getElem?_eq_some_iff.1 HH4.out).1]; exact HH4.out
    · rw [v6]; exact HS4.out.below (since_alloc (Below.refl _ x4) _)
    · rw [v4]; exact own_base (HO4.out.alloc _) HBB.out
    · exact ⟨Nat.le_trans HBB.out HB4.out.size, Nat.le_trans HBB.out HB3.out.size⟩
    · rw [v1, v2, v3, v4]; have := HBD.out; omega
    · rw [v6]; exact HR5.out
end
section
theorem rapp_any {B b c kc s c2 : Nat} {A KA A2 : Option Addr} {R R2 : List (RowS Nat)} {x : Rv} {y : Sc} (rA : Option Addr) (rc_ : Nat) (l : List Nat) (w : World) (h : RvA B w b A c R KA kc x) (hy : RsA B w s b A2 c2 R2 y) (hB : B ≤ w.heap.size) (hlc : l.length ≤ rc_) (hcm : rc_ ≤ maxLen) (hl : l.length ≤ 100000) (hrs : Sl w rA (by8 l)) (ho : Oct l)
    (htc : y.t ≤ x.C.length) (hfu : x.fuse ≤ 9223372036854775807) (hfl : -9223372036854775807 ≤ x.fuse) (hap : ∀ z ∈ blkR b A x.C.length c, (y.row A2 c2).ownBlock ≠ some z) (hLn : y.L.length ≤ 900000) :
    Calls Try.prog 19 #[.pointer (some ⟨s, 0, none⟩), .slice rA l.length rc_] w fun e w' => e = .returned (.int .i64 (y.rapp x l).2) ∧ ∃ R' A2' c2' R2', RvA B w' b A c R' KA kc (y.rapp x l).1.2 ∧ RsA B w' s b A2' c2' R2' (y.rapp x l).1.1 ∧ (R2' = R2 ∨ R2' = R2 ++ [⟨rA, rc_, l⟩]) ∧ ChgL (blkD b A x.C.length c s (y.row A2 c2)) w w' ∧
      (((y.rapp x l).1.1.row A2' c2').ownBlock = (y.row A2 c2).ownBlock ∨ ∃ k, w.heap.size ≤ k ∧ ((y.rapp x l).1.1.row A2' c2').ownBlock = some k) := by
  by_cases hd : y.dead = true ∨ x.off = true
  · have e1 : y.rapp x l = ((y, x), 9) := by unfold Sc.rapp; rw [if_pos hd]
    rw [e1]
    refine (rapp_off rA rc_ l w h hy hB hlc hcm hl hrs ho hd).mono ?_
    rintro e w' ⟨rfl, rfl⟩
    exact ⟨rfl, R, A2, c2, R2, h, hy, .inl rfl, ChgL.refl _ _, .inl rfl⟩
  · have hdead : y.dead = false := by cases hh : y.dead <;> simp_all
    have hoff : x.off = false := by cases hh : x.off <;> simp_all
    by_cases hcz : (cutF y.life y.era ((y.L.length + 1 : Nat) : Int) l).2 ≠ 0
    · have e1 : y.rapp x l = ((y, x), (cutF y.life y.era ((y.L.length + 1 : Nat) : Int) l).2) := by unfold Sc.rapp; rw [if_neg hd, if_pos hcz]
      rw [e1]
      refine (rapp_cut rA rc_ l w h hy hB hlc hcm hl hrs ho hdead hoff hcz).mono ?_
      rintro e w' ⟨rfl, hb⟩
      exact ⟨rfl, R, A2, c2, R2, h.below hb, hy.below hb, .inl rfl, ChgL.of_below hb, .inl rfl⟩
    · have hcz0 : (cutF y.life y.era ((y.L.length + 1 : Nat) : Int) l).2 = 0 := Classical.not_not.1 hcz
      by_cases hroom : (y.t : Int) - (y.f : Int) - (y.used : Int) < (((cutF y.life y.era ((y.L.length + 1 : Nat) : Int) l).1.length : Nat) : Int)
      · have e1 : y.rapp x l = ((y, x), 10) := by unfold Sc.rapp; rw [if_neg hd, if_neg hcz, if_pos hroom]
        rw [e1]
        refine (rapp_full rA rc_ l w h hy hB hlc hcm hl hrs ho hdead hoff hcz0 hroom).mono ?_
        rintro e w' ⟨rfl, hb⟩
        exact ⟨rfl, R, A2, c2, R2, h.below hb, hy.below hb, .inl rfl, ChgL.of_below hb, .inl rfl⟩
      · have hways : (x.write ((y.f + y.used : Nat) : Int) (cutF y.life y.era ((y.L.length + 1 : Nat) : Int) l).1).2 = 9 ∨ (x.write ((y.f + y.used : Nat) : Int) (cutF y.life y.era ((y.L.length + 1 : Nat) : Int) l).1).2 = 0 := by
          unfold Rv.write
          rw [if_neg (by rw [hoff]; decide)]
          simp only
          split
          · left; rfl
          · right; rfl
        rcases hways with hw | hw
        · have e1 : y.rapp x l = (({ y with dead := true }, (x.write ((y.f + y.used : Nat) : Int) (cutF y.life y.era ((y.L.length + 1 : Nat) : Int) l).1).1), 9) := by unfold Sc.rapp; rw [if_neg hd, if_neg hcz, if_neg hroom, if_pos (by rw [hw]; decide), hw]
          rw [e1]
          refine (rapp_torn rA rc_ l w h hy hB hlc hcm hl hrs ho hdead hoff hcz0 hroom htc hfu hfl hap hw).mono ?_
          rintro e w' ⟨rfl, R', h1, h2, h3⟩
          exact ⟨rfl, R', A2, c2, R2, h1, h2, .inl rfl, h3, .inl rfl⟩
        · have e1 : y.rapp x l = ((y.add l (cutF y.life y.era ((y.L.length + 1 : Nat) : Int) l).1.length, (x.write ((y.f + y.used : Nat) : Int) (cutF y.life y.era ((y.L.length + 1 : Nat) : Int) l).1).1), 0) := by unfold Sc.rapp; rw [if_neg hd, if_neg hcz, if_neg hroom, if_neg (by rw [hw]; decide)]
          rw [e1]
          refine (rapp_go rA rc_ l w h hy hB hlc hcm hl hrs ho hdead hoff hcz0 hroom htc hfu hfl hap hw hLn).mono ?_
          rintro e w' ⟨rfl, R', A2', c2', h1, h2, h3, h4⟩
          exact ⟨rfl, R', A2', c2', _, h1, h2, .inr rfl, h3, h4⟩
structure Rel (d : Dv) (x : Rv) : Prop where
  C : x.C = d.S
  off : x.off = !d.on
  fz : d.on = true → d.fused = true → x.fuse = d.spare ∧ 0 ≤ d.spare ∧ x.keep = d.keep
  nf : d.on = true → d.fused = false → x.fuse = -1
  bd : -1 ≤ x.fuse ∧ x.fuse ≤ 9223372036854775807
theorem Rel.new (n : Nat) : Rel (Dv.new n) (Rv.new n) := ⟨rfl, rfl, (fun _ h => by cases h), fun _ _ => rfl, by show (-1 : Int) ≤ -1 ∧ (-1 : Int) ≤ _; decide⟩
theorem Rel.fuse {d : Dv} {x : Rv} (h : Rel d x) (n : Int) (l : List Nt) (hn : n ≤ 9223372036854775807) : (d.fuse n l).2 = (x.fused n l).2 ∧ Rel (d.fuse n l).1 (x.fused n l).1 := by
  unfold Dv.fuse
  have ho := h.off
  cases hon : d.on with
  | false =>
    have ho2 : x.off = true := by rw [ho, hon]; rfl
    rw [if_neg (by decide), show x.fused n l = (x, 9) from if_pos ho2]
    exact ⟨rfl, h⟩
  | true =>
    have ho : x.off = false := by rw [ho, hon]; rfl
    rw [if_pos rfl, show x.fused n l = ({ x with fuse := if n < 0 then -1 else n, keep := l }, 0) from if_neg (by rw [ho]; decide)]
    refine ⟨rfl, ?_⟩
    by_cases hn0 : 0 ≤ n
    · rw [if_pos hn0]
      refine ⟨h.C, (by show x.off = !true; rw [ho]; rfl), fun _ _ => ⟨?_, hn0, rfl⟩, (fun _ hf => by cases hf), ?_⟩
      · show (if n < 0 then -1 else n) = n; rw [if_neg (by omega)]
      · show -1 ≤ (if n < 0 then -1 else n) ∧ (if n < 0 then -1 else n) ≤ 9223372036854775807; rw [if_neg (by omega)]; omega
    · rw [if_neg hn0]
      refine ⟨h.C, (by show x.off = !true; rw [ho]; rfl), (fun _ hf => by cases hf), fun _ _ => ?_, ?_⟩
      · show (if n < 0 then -1 else n) = -1; rw [if_pos (by omega)]
      · show -1 ≤ (if n < 0 then (-1 : Int) else n) ∧ (if n < 0 then (-1 : Int) else n) ≤ 9223372036854775807; rw [if_pos (by omega)]; decide
theorem Rel.start {d : Dv} {x : Rv} (h : Rel d x) : Rel d.fresh { x with off := false, fuse := -1 } := ⟨h.C, rfl, (fun _ hf => by cases hf), fun _ _ => rfl, by show (-1 : Int) ≤ -1 ∧ (-1 : Int) ≤ _; decide⟩
theorem Rel.write {d : Dv} {x : Rv} (h : Rel d x) (hon : d.on = true) {p : Nat} {cs : List (List Nat)} (hf : fitsF d.S.length (p : Int) cs = true) (h0 : 0 < cs.length) : (d.write (p : Int) cs).2 = (x.write (p : Int) cs).2 ∧ Rel (d.write (p : Int) cs).1 (x.write (p : Int) cs).1 := by
  rw [Dv.write_fit hon hf h0]
  have ho : x.off = false := by rw [h.off, hon]; rfl
  rw [show x.write (p : Int) cs = ({ x with C := putK (x.fuse == 0) x.keep ((p : Int)).toNat cs cs.length x.C, off := x.fuse == 0, writes := wrap64 (x.writes + 1), fuse := if 0 < x.fuse then x.fuse - 1 else x.fuse }, if (x.fuse == 0) = true then 9 else 0) from if_neg (by rw [ho]; decide)]
  have hbd := h.bd
  cases hfu : d.fused with
  | true =>
    obtain ⟨f1, f2, f3⟩ := h.fz hon hfu
    by_cases hs : d.spare = 0
    · have ht : d.torn = true := by unfold Dv.torn; rw [hfu, hs]; rfl
      have hz : (x.fuse == 0) = true := by rw [f1, hs]; rfl
      have hb : d.burnt = { d with on := false, fused := false } := by unfold Dv.burnt; rw [if_pos hfu, if_neg (by omega)]
      rw [ht, hz, hb]
      refine ⟨rfl, ?_, rfl, (fun ho => by cases ho), (fun ho => by cases ho), ?_⟩
      · show putK true x.keep _ cs cs.length x.C = putK true d.keep _ cs cs.length d.S
        rw [f3, h.C]
      · show -1 ≤ (if 0 < x.fuse then x.fuse - 1 else x.fuse) ∧ (if 0 < x.fuse then x.fuse - 1 else x.fuse) ≤ _
        rw [if_neg (by omega)]; omega
    · have ht : d.torn = false := by unfold Dv.torn; rw [hfu, Bool.true_and]; exact decide_eq_false (by omega)
      have hz : (x.fuse == 0) = false := by rw [f1]; simpa using hs
      have hb : d.burnt = { d with spare := d.spare - 1 } := by unfold Dv.burnt; rw [if_pos hfu, if_pos (by omega)]
      rw [ht, hz, hb]
      refine ⟨rfl, ?_, ?_, fun _ _ => ⟨?_, ?_, f3⟩, fun _ hf => ?_, ?_⟩
      · show putK false x.keep _ cs cs.length x.C = putK false d.keep _ cs cs.length d.S
        rw [f3, h.C]
      · show false = !d.on; rw [hon]; rfl
      · show (if 0 < x.fuse then x.fuse - 1 else x.fuse) = d.spare - 1
        rw [if_pos (by omega), f1]
      · show 0 ≤ d.spare - 1; omega
      · have hf2 : d.fused = false := hf
        rw [hfu] at hf2; cases hf2
      · show -1 ≤ (if 0 < x.fuse then x.fuse - 1 else x.fuse) ∧ (if 0 < x.fuse then x.fuse - 1 else x.fuse) ≤ _
        rw [if_pos (by omega)]; omega
  | false =>
    have f1 := h.nf hon hfu
    have ht : d.torn = false := by unfold Dv.torn; rw [hfu]; rfl
    have hz : (x.fuse == 0) = false := by rw [f1]; rfl
    have hb : d.burnt = d := by unfold Dv.burnt; rw [if_neg (by rw [hfu]; decide)]
    rw [ht, hz, hb]
    have hput : ∀ k1 k2 : List Nt, ∀ n, putK false k1 (p : Int).toNat cs n d.S = putK false k2 (p : Int).toNat cs n d.S := fun k1 k2 n => by
      induction n with
      | zero => rfl
      | succ n ih => rw [putK, putK, ih]; rfl
    refine ⟨rfl, ?_, ?_, fun _ hf => ?_, fun _ _ => ?_, ?_⟩
    · show putK false x.keep _ cs cs.length x.C = putK false d.keep _ cs cs.length d.S
      rw [h.C]; exact hput _ _ _
    · show false = !d.on; rw [hon]; rfl
    · have hf2 : d.fused = true := hf
      rw [hfu] at hf2; cases hf2
    · show (if 0 < x.fuse then x.fuse - 1 else x.fuse) = -1
      rw [if_neg (by omega), f1]
    · show -1 ≤ (if 0 < x.fuse then x.fuse - 1 else x.fuse) ∧ (if 0 < x.fuse then x.fuse - 1 else x.fuse) ≤ _
      rw [if_neg (by omega)]; exact hbd
theorem Rel.app {d : Dv} {x : Rv} (h : Rel d x) {y : Sc} {l : List Nat} (ht : y.t ≤ d.S.length) : (y.rapp x l).2 = (y.app d l).2 ∧ (y.rapp x l).1.1 = (y.app d l).1.1 ∧ Rel (y.app d l).1.2 (y.rapp x l).1.2 := by
  have ho := h.off
  unfold Sc.app Sc.rapp
  by_cases hd : y.dead = true ∨ d.on = false
  · have hd2 : y.dead = true ∨ x.off = true := hd.imp id (fun h1 => by rw [ho, h1]; rfl)
    rw [if_pos hd, if_pos hd2]
    exact ⟨rfl, rfl, h⟩
  · have hon : d.on = true := by cases hh : d.on <;> simp_all
    have hd2 : ¬ (y.dead = true ∨ x.off = true) := fun h1 => hd (h1.imp id (fun h2 => by rw [ho, hon] at h2; cases h2))
    rw [if_neg hd, if_neg hd2]
    by_cases hcz : (cutF y.life y.era ((y.L.length + 1 : Nat) : Int) l).2 ≠ 0
    · rw [if_pos hcz, if_pos hcz]; exact ⟨rfl, rfl, h⟩
    · rw [if_neg hcz, if_neg hcz]
      have hcz0 : (cutF y.life y.era ((y.L.length + 1 : Nat) : Int) l).2 = 0 := Classical.not_not.1 hcz
      by_cases hroom : (y.t : Int) - (y.f : Int) - (y.used : Int) < (((cutF y.life y.era ((y.L.length + 1 : Nat) : Int) l).1.length : Nat) : Int)
      · rw [if_pos hroom, if_pos hroom]; exact ⟨rfl, rfl, h⟩
      · rw [if_neg hroom, if_neg hroom]
        have hfit := cut_fits (m := d.S.length) (p := y.f + y.used) hcz0 (by omega)
        obtain ⟨w1, w2⟩ := h.write hon hfit (cut_pos hcz0)
        have hw := Dv.write_fit hon hfit (cut_pos hcz0)
        cases htr : d.torn with
        | true =>
          have e9 : (d.write ((y.f + y.used : Nat) : Int) (cutF y.life y.era ((y.L.length + 1 : Nat) : Int) l).1).2 = 9 := by rw [hw, htr]; rfl
          rw [e9] at w1
          rw [if_pos rfl, if_pos (by rw [← w1]; decide)]
          exact ⟨w1.symm, rfl, w2⟩
        | false =>
          have e0 : (d.write ((y.f + y.used : Nat) : Int) (cutF y.life y.era ((y.L.length + 1 : Nat) : Int) l).1).2 = 0 := by rw [hw, htr]; rfl
          rw [e0] at w1
          rw [if_neg (show ¬ (false = true) by decide), if_neg (show ¬ (x.write ((y.f + y.used : Nat) : Int) (cutF y.life y.era ((y.L.length + 1 : Nat) : Int) l).1).2 ≠ 0 from fun h9 => h9 w1.symm)]
          exact ⟨rfl, rfl, w2⟩
end
end Go.Proofs.Ytiggcpfmmgmncaa
