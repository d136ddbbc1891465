import Derived.Test.YtiggcpfmmgmncaaVp22
import Derived.Test.YtiggcpfmmgmncaaVp30
import Derived.Test.YtiggcpfmmgmncaaVp31
import Derived.Test.YtiggcpfmmgmncaaVp25
set_option maxHeartbeats 16000000
set_option maxRecDepth 100000
set_option linter.unusedVariables false
set_option linter.unusedSimpArgs false
namespace Go.Proofs.Ytiggcpfmmgmncaa
open Go.ChangeShapes Go.WideShapes Go.ChangeAt Go.RowKit
section
def Rv.save (x : Rv) (p each : Nat) (life era : Int) (b : List Nat) : Rv × Int :=
  if era ≤ (loadS x.C p each).1 then (x, 2)
  else if (cutF life era 1 b).2 ≠ 0 then (x, (cutF life era 1 b).2)
  else if (each : Int) < ((cutF life era 1 b).1.length : Int) then (x, 10)
  else x.write ((p + era.toNat % 2 * each : Nat) : Int) (cutF life era 1 b).1
theorem rsave9_any {B b c kc : Nat} {A KA : Option Addr} {R : List (RowS Nat)} {x : Rv} (p each : Nat) (life era : Int) (rA : Option Addr) (rc_ : Nat) (l : List Nat) (w : World) (h : RvA B w b A c R KA kc x) (hB : B ≤ w.heap.size) (hp : p + 2 * each ≤ x.C.length) (he : 1 ≤ each)
    (hlc : l.length ≤ rc_) (hcm : rc_ ≤ maxLen) (hl : l.length ≤ 100000) (hrs : Sl w rA (by8 l)) (ho : Oct l) (hoff : x.off = false) (hfu : x.fuse ≤ 9223372036854775807) (hfl : -9223372036854775807 ≤ x.fuse) :
    Calls Try.prog 75 #[.pointer (some ⟨b, 0, none⟩), .int .i64 p, .int .i64 each, .int .i64 life, .int .i64 era, .slice rA l.length rc_] w fun e w' => e = .returned (.int .i64 (x.save p each life era l).2) ∧ ∃ R', RvA B w' b A c R' KA kc (x.save p each life era l).1 ∧ ChgL (blkR b A x.C.length c) w w' := by
  have HLD := Lib.hid (rload9_any p each w h hp he)
  have hw := loadS_ways x.C p each
  have hcut := fun V (hV : Below w.heap.size w V) => rcut7_any life era 1 rA rc_ l V hlc hcm (by omega) (hrs.below hV) ho
  have HRV := Lib.hid h
  have HBB := Lib.hid hB
  have HLT := Lib.hid (blk_lt_of h.row_blk)
  have HPE := Lib.hid (show p + 2 * each ≤ x.C.length ∧ x.C.length ≤ 2048 from ⟨hp, h.small.1⟩)
  have HOFF := Lib.hid hoff
  have HFU := Lib.hid (show x.fuse ≤ 9223372036854775807 ∧ -9223372036854775807 ≤ x.fuse from ⟨hfu, hfl⟩)
  have hrows := fun (CR : List (List Nat)) (e : cutF life era 1 l = (CR, 0)) => cut_rows e ho
  have hpos := fun (CR : List (List Nat)) (e : cutF life era 1 l = (CR, 0)) => (show 0 < CR.length by have := cut_pos (life := life) (era := era) (seq := 1) (b := l) (by rw [e]); rw [e] at this; exact this)
  obtain ⟨⟨m, lb, z⟩, hLD⟩ : ∃ L, loadS x.C p each = L := ⟨_, rfl⟩
  obtain ⟨⟨CR, cz⟩, hR⟩ : ∃ C, cutF life era 1 l = C := ⟨_, rfl⟩
  have hsv : x.save p each life era l = if era ≤ m then (x, 2) else if cz ≠ 0 then (x, cz) else if (each : Int) < (CR.length : Int) then (x, 10) else x.write ((p + era.toNat % 2 * each : Nat) : Int) CR := by
    unfold Rv.save; rw [hLD, hR]
  rw [hLD] at HLD hw
  simp only at hw
  have hz2 : (z == 2) = false := by rcases hw.1 with e | e <;> (rw [e]; rfl)
  have hm0 := hw.2.1
  have HCU := Lib.hid (fun V (hV : Below w.heap.size w V) => (by have := hcut V hV; rw [hR] at this; exact this : Calls Try.prog 59 #[.int .i64 life, .int .i64 era, .int .i64 1, .slice rA l.length rc_] V fun e w' => CRes V.heap.size w' e (CR, cz) ∧ Below V.heap.size V w'))
  have HRW := Lib.hid (fun (e : cz = 0) => hrows CR (by rw [hR, e]))
  have HPOS := Lib.hid (fun (e : cz = 0) => hpos CR (by rw [hR, e]))
  have HSV := Lib.hid hsv
  clear h hB hp he hlc hcm hl hrs ho hoff hfu hfl hcut hrows hpos hLD hR hsv hw
  go_enter Try.func75, Try.ntmps75
  go_wp2_with fail
  refine HLD.out.mono ?_
  rintro e v1 ⟨⟨A1, c1', rfl, own1⟩, hb1⟩
  have HB1 := Lib.hid hb1
  clear own1 hb1 HLD
  by_cases c0 : era ≤ m
  · have HS2 : Hid (x.save p each life era l = (x, 2)) := Lib.hid (by rw [HSV.out, if_pos c0])
    have e0 : decide (era ≤ m) = true := decide_eq_true c0
    by_cases c1 : era < 1
    · have e1 : decide (era < 1) = true := decide_eq_true c1
      go_wp2_with fail
      go_ret
      rw [HS2.out]
      exact ⟨rfl, _, HRV.out.below HB1.out, ChgL.of_below HB1.out⟩
    · have e1 : decide (era < 1) = false := decide_eq_false c1
      go_wp2_with fail
      go_ret
      rw [HS2.out]
      exact ⟨rfl, _, HRV.out.below HB1.out, ChgL.of_below HB1.out⟩
  · have e0 : decide (era ≤ m) = false := decide_eq_false c0
    have c1 : ¬ era < 1 := by omega
    have e1 : decide (era < 1) = false := decide_eq_false c1
    have hSV2 := HSV.out
    rw [if_neg c0] at hSV2
    have HSV2 := Lib.hid hSV2
    obtain ⟨E, hE⟩ : ∃ E : Nat, era = (E : Int) := ⟨era.toNat, by omega⟩
    have HE := Lib.hid hE
    have htm : Int.tmod era 2 = ((E % 2 : Nat) : Int) := by rw [hE]; exact tmod2 E
    obtain ⟨od, hod⟩ : ∃ od, E % 2 = od := ⟨_, rfl⟩
    rw [hod] at htm
    have hod1 : od ≤ 1 := by omega
    have HOD := Lib.hid (show era.toNat % 2 = od by rw [hE, Int.toNat_natCast]; exact hod)
    have hmul : od * each ≤ each := by rcases (by omega : od = 0 ∨ od = 1) with e | e <;> rw [e] <;> omega
    have HQ : Hid (p + od * each + each ≤ x.C.length ∧ x.C.length ≤ 2048) := Lib.hid (by have := HPE.out; omega)
    have hwm : IntKind.i64.wrap ((od : Int) * (each : Int)) = ((od * each : Nat) : Int) := by have := HPE.out; rw [Int.natCast_mul, IntKind.wrap_i64]; rw [← Int.natCast_mul]; omega
    obtain ⟨oe, hoe⟩ : ∃ oe, od * each = oe := ⟨_, rfl⟩
    have HOE := Lib.hid hoe
    rw [hoe] at hwm hmul
    have hwp : IntKind.i64.wrap ((p : Int) + (oe : Int)) = ((p + oe : Nat) : Int) := by have := HPE.out; rw [IntKind.wrap_i64]; omega
    have HCU1 := Lib.hid (HCU.out v1 HB1.out)
    clear hE hod hod1 hmul hoe hSV2 c0 hm0 HCU
    go_wp2_with fail
    refine HCU1.out.mono ?_
    rintro e v2 ⟨⟨A2, c2, S2, rfl, own2, map2, or2⟩, hb2⟩
    have HB2 := Lib.hid (since_step HB1.out hb2)
    have HRX : Hid (RowsX (blkR b A x.C.length c) v2 A2 S2) := Lib.hid (RowsX.own own2 or2 (fun y hy => ⟨Nat.lt_of_lt_of_le (HLT.out y hy) HB1.out.size, Nat.lt_of_lt_of_le (HLT.out y hy) HB1.out.size⟩))
    have HMP := Lib.hid (show S2.map RowS.l = CR from map2)
    have HSL := Lib.hid (show S2.length = CR.length by rw [← HMP.out, List.length_map])
    clear own2 map2 or2 hb2 HCU1
    by_cases c2_ : cz = 0
    · have e2 : (cz != 0) = false := by simpa using c2_
      have hSV3 := HSV2.out
      rw [if_neg (fun h => h c2_)] at hSV3
      have HSV3 := Lib.hid hSV3
      have HRW1 := Lib.hid (HRW.out c2_)
      have HPOS1 := Lib.hid (HPOS.out c2_)
      clear c2_ hSV3
      by_cases c3 : (each : Int) < (CR.length : Int)
      · have c3b : (each : Int) < (S2.length : Int) := by rw [HSL.out]; exact c3
        have e3 : decide ((each : Int) < (S2.length : Int)) = true := decide_eq_true c3b
        have e3n : decide (each < S2.length) = true := decide_eq_true (by omega)
        have HS2 : Hid (x.save p each life era l = (x, 10)) := Lib.hid (by rw [HSV3.out, if_pos c3])
        clear c3
        go_wp2_with fail
        go_ret
        rw [HS2.out]
        exact ⟨rfl, _, HRV.out.below HB2.out, ChgL.of_below HB2.out⟩
      · have c3b : ¬ (each : Int) < (S2.length : Int) := by rw [HSL.out]; exact c3
        have e3 : decide ((each : Int) < (S2.length : Int)) = false := decide_eq_false c3b
        have e3n : decide (each < S2.length) = false := decide_eq_false (by omega)
        have HS2 : Hid (x.save p each life era l = x.write ((p + oe : Nat) : Int) CR) := Lib.hid (by rw [HSV3.out, if_neg c3, HOD.out, HOE.out])
        have hW := rwrite_ok (p + oe) c2 S2 v2 (HRV.out.below HB2.out) (Nat.le_trans HBB.out HB2.out.size) HRX.out (fun r hr => by have := HRW1.out r.l (by rw [← HMP.out]; exact List.mem_map.2 ⟨r, hr, rfl⟩); exact ⟨this.2, this.1⟩) HOFF.out (by have := HQ.out; have := HOE.out; have := HSL.out; omega) (by rw [HSL.out]; exact HPOS1.out) HFU.out.1 HFU.out.2
        rw [HMP.out] at hW
        have HW := Lib.hid hW
        clear hW c3
        go_wp2_with fail
        refine HW.out.mono ?_
        rintro e v3 ⟨rfl, R', hv3, hc3⟩
        have HV3 := Lib.hid hv3
        have HC3 := Lib.hid hc3
        clear hv3 hc3 HW
        go_wp2_with fail
        go_ret
        rw [HS2.out]
        exact ⟨rfl, R', HV3.out, (ChgL.of_below HB2.out).trans HC3.out (fun y hy => .inl hy)⟩
    · have e2 : (cz != 0) = true := by simpa using c2_
      have HS2 : Hid (x.save p each life era l = (x, cz)) := Lib.hid (by rw [HSV2.out, if_pos c2_])
      clear c2_
      go_wp2_with fail
      go_ret
      rw [HS2.out]
      exact ⟨rfl, _, HRV.out.below HB2.out, ChgL.of_below HB2.out⟩
end
section
theorem DrA.box {B b g kc h : Nat} {w w' : World} {K : Option Addr} {d : Dv} {cs : Array Value} {T : TypeId} {z : Nat × Nat} (hd : DrA B w b g K kc d) (hh : w.heap[h]? = some (.cells cs T z)) (h1 : T ≠ 71) (h2 : T ≠ 142) (h3 : T ≠ 3) (hc : ChgL [h] w w') : DrA B w' b g K kc d := by
  refine hd.chgL hc ?_ ?_ ?_
  · intro hm
    rw [List.mem_singleton] at hm
    have e := hd.blk
    rw [hm, hh] at e
    injection e with e
    injection e with _ e
    exact h1 e
  · intro hm
    rw [List.mem_singleton] at hm
    have e := hd.row
    rw [hm, hh] at e
    injection e with e
    injection e with _ e
    exact h2 e
  · intro y hy
    rw [List.mem_singleton] at hy
    rw [hy]
    exact own_type hd.kp hh (fun e => h3 e.symm)
theorem ScA.box {B s b c h : Nat} {w w' : World} {A : Option Addr} {R : List (RowS Nat)} {x : Sc} {cs : Array Value} {T : TypeId} {z : Nat × Nat} (hs : ScA B w s b A c R x) (hh : w.heap[h]? = some (.cells cs T z)) (h1 : T ≠ 66) (h2 : T ≠ 36) (h3 : T ≠ 5) (hc : ChgL [h] w w') : ScA B w' s b A c R x := by
  refine ⟨?_, ?_, ?_, hs.map, hs.ge, hs.small⟩
  · rw [hc.block s hs.lt (fun hm => by
      rw [List.mem_singleton] at hm
      have e := hs.blk
      rw [hm, hh] at e
      injection e with e
      injection e with _ e
      exact h1 e)]
    exact hs.blk
  · exact hc.own hs.own (fun y hy => by rw [List.mem_singleton] at hy; rw [hy]; exact own_type hs.own hh (fun e => h2 e.symm))
  · exact fun r hr => hc.own (hs.rows r hr) (fun y hy => by rw [List.mem_singleton] at hy; rw [hy]; exact own_type (hs.rows r hr) hh (fun e => h3 e.symm))
theorem own_box {B n : Nat} {e : TypeId} {v : Value} {xs : List Value} {h : Nat} {w w' : World} {cs : Array Value} {T : TypeId} {z : Nat × Nat} {size : Nat} (ho : w.ownsRow B e size v n xs) (hh : w.heap[h]? = some (.cells cs T z)) (h1 : e ≠ T) (hc : ChgL [h] w w') : w'.ownsRow B e size v n xs :=
  hc.own ho (fun y hy => by rw [List.mem_singleton] at hy; rw [hy]; exact own_type ho hh h1)
theorem box_cells {w : World} {h : Nat} {cs : Array Value} {T : TypeId} (hh : w.heap[h]? = some (.cells cs T (0, 0))) (i : Nat) : w.cell? ⟨h, i, none⟩ = cs[i]? ∧ w.frozen? ⟨h, i, none⟩ = false ∧ h < w.heap.size :=
  ⟨by simp [World.cell?, hh], by simp [World.frozen?, hh], (Array.getElem?_eq_some_iff.1 hh).1⟩
structure Vv where
  each : Nat
  life : Int
  era : Int
  state : List Nat
  dead : Bool
  sc : Sc
def shC (p0 : Value) (b each : Nat) (life era : Int) (st : Value) (dead : Bool) : Array Value := #[p0, .pointer (some ⟨b, 0, none⟩), .int .i64 each, .int .i64 life, .int .i64 era, st, .bool dead]
structure VaA (B : Nat) (w : World) (v h s b : Nat) (A : Option Addr) (c : Nat) (R : List (RowS Nat)) (SA : Option Addr) (k : Nat) (x : Vv) : Prop where
  vb : w.heap[v]? = some (.cells #[.pointer (some ⟨h, 0, none⟩)] 99 (0, 0))
  hb : w.heap[h]? = some (.cells (shC (.pointer (some ⟨s, 0, none⟩)) b x.each x.life x.era (.slice SA x.state.length k) x.dead) 123 (0, 0))
  sc : ScA B w s b A c R x.sc
  st : w.ownsRow B 5 1 (.slice SA x.state.length k) x.state.length (by8 x.state)
  ge : B ≤ v ∧ B ≤ h
  small : x.each ≤ 1024 ∧ x.state.length ≤ 100000 ∧ 0 ≤ x.life ∧ x.life ≤ 16777215 ∧ 0 ≤ x.era ∧ x.era ≤ 16777215
theorem VaA.below {B v h s b c k : Nat} {w w' : World} {A SA : Option Addr} {R : List (RowS Nat)} {x : Vv} (hv : VaA B w v h s b A c R SA k x) (hb : Below w.heap.size w w') : VaA B w' v h s b A c R SA k x :=
  ⟨by rw [hb.block v (Array.getElem?_eq_some_iff.1 hv.vb).1]; exact hv.vb, by rw [hb.block h (Array.getElem?_eq_some_iff.1 hv.hb).1]; exact hv.hb, hv.sc.below hb, own_below hv.st hb, hv.ge, hv.small⟩
theorem VaA.chg2 {B B2 b g kc v h s b2 c k : Nat} {K A SA : Option Addr} {d : Dv} {R : List (RowS Nat)} {x : Vv} {w w' : World} (hd : DrA B w b g K kc d) (hv : VaA B2 w v h s b2 A c R SA k x) (hc : Chg2 b g w w') : VaA B2 w' v h s b2 A c R SA k x := by
  have far : ∀ {n : Nat} {cs : Array Value} {T : TypeId} {z : Nat × Nat}, w.heap[n]? = some (.cells cs T z) → T ≠ 71 → T ≠ 142 → w'.heap[n]? = w.heap[n]? := fun {n cs T z} hn h1 h2 =>
    hc.block n (Array.getElem?_eq_some_iff.1 hn).1 (fun e => by
      have e1 := hd.blk
      rw [← e, hn] at e1
      injection e1 with e1
      injection e1 with _ e1
      exact h1 e1) (fun e => by
      have e1 := hd.row
      rw [← e, hn] at e1
      injection e1 with e1
      injection e1 with _ e1
      exact h2 e1)
  obtain ⟨x1, x2⟩ := hd.off hv.st (by decide) (by decide)
  exact ⟨by rw [far hv.vb (by decide) (by decide)]; exact hv.vb, by rw [far hv.hb (by decide) (by decide)]; exact hv.hb, ScA.chg2 hd hv.sc hc, hc.own hv.st x1 x2, hv.ge, hv.small⟩
theorem vturn_any {B b g kc h : Nat} {K : Option Addr} {d : Dv} {p0 : Value} {each : Nat} {l0 e0 : Int} {st : Value} {dead : Bool} (life era : Int) (w : World) (hd : DrA B w b g K kc d) (hh : w.heap[h]? = some (.cells (shC p0 b each l0 e0 st dead) 123 (0, 0))) (hB : B ≤ w.heap.size)
    (h2 : 2 * each ≤ d.S.length) (hl1 : 1 ≤ life) (hl2 : life ≤ 16777215) (he1 : 0 ≤ era) (he2 : era ≤ 16777215) (hnew : newestN d.S (2 * each) (d.S.length - 2 * each) < life) :
    Calls Try.prog 69 #[.pointer (some ⟨h, 0, none⟩), .int .i64 life, .int .i64 era] w fun e w' => ∃ s A c R, e = .returned (.int .i64 0) ∧ w'.heap[h]? = some (.cells (shC (.pointer (some ⟨s, 0, none⟩)) b each life era st dead) 123 (0, 0)) ∧
      ScA B w' s b A c R ⟨2 * each, d.S.length, life, era, (scan d.S d.S.length era (2 * each) 0 0).1, (scan d.S d.S.length era (2 * each) 0 0).2 - 2 * each, false⟩ ∧ ChgL [h] w w' ∧ w.heap.size ≤ s ∧ (∀ k, (Sc.row ⟨2 * each, d.S.length, life, era, (scan d.S d.S.length era (2 * each) 0 0).1, (scan d.S d.S.length era (2 * each) 0 0).2 - 2 * each, false⟩ A c).ownBlock = some k → w.heap.size ≤ k) := by
  have HSZ := Lib.hid (fun V (hV : Below w.heap.size w V) => dsize_eq V (hd.below hV))
  have HOP := Lib.hid (fun V (hV : Below w.heap.size w V) => sopen_new (2 * each) d.S.length life era V (hd.below hV) (Nat.le_trans hB hV.size) h2 (Nat.le_refl _) hl1 hl2 he1 he2 hnew)
  have hlen := hd.len
  have HW2 : Hid (IntKind.i64.wrap (2 * (each : Int)) = ((2 * each : Nat) : Int)) := Lib.hid (by rw [IntKind.wrap_i64]; omega)
  have HBOX := Lib.hid (fun V (hV : Below w.heap.size w V) => (show V.heap[h]? = some (.cells (shC p0 b each l0 e0 st dead) 123 (0, 0)) from by rw [hV.block h (Array.getElem?_eq_some_iff.1 hh).1]; exact hh))
  have HBX := Lib.hid (fun V (hV : Below w.heap.size w V) => (show V.cell? ⟨h, 1, none⟩ = some (.pointer (some ⟨b, 0, none⟩)) ∧ V.cell? ⟨h, 2, none⟩ = some (.int .i64 each) ∧ h < V.heap.size from by
    have hx := HBOX.out V hV
    exact ⟨(box_cells hx 1).1, (box_cells hx 2).1, (box_cells hx 1).2.2⟩))
  obtain ⟨n, hn⟩ : ∃ n, d.S.length = n := ⟨_, rfl⟩
  rw [hn] at HSZ HOP ⊢
  obtain ⟨X, hX⟩ : ∃ X, scan d.S n era (2 * each) 0 0 = X := ⟨_, rfl⟩
  rw [hX] at HOP ⊢
  clear hn hX hd hh hB h2 hl1 hl2 he1 he2 hnew hlen
  go_enter Try.func69, Try.ntmps69
  go_wp2_with fail
  refine wp_region_held_drew (S := (fun V => Below w.heap.size w V)) (by kernel_rfl) (by exact (Below.refl _ _).drew) (fun hHeld => ?_)
  refine tkJ 0 10 rfl (by intro w; go_simp <;> with_reducible rfl) hHeld ?_; simp only [pqZ]
  refine tkJ 1 11 rfl (by intro w; go_simp <;> with_reducible rfl) hHeld ?_; simp only [pqZ]
  refine tkJ 2 12 rfl (by intro w; go_simp <;> with_reducible rfl) hHeld ?_; simp only [pqZ]
  refine tkI 3 13 rfl (by intro w hSw; obtain ⟨q1, q2, qs⟩ := HBX.out _ (hSw); go_simp <;> with_reducible rfl) hHeld ?_; simp only [pqZ]
  refine tkJ 4 14 rfl (by intro w; go_simp <;> with_reducible rfl) hHeld ?_; simp only [pqZ]
  refine tkJ 5 15 rfl (by intro w; go_simp <;> with_reducible rfl) hHeld ?_; simp only [pqZ]
  refine tkJ 6 16 rfl (by intro w; go_simp <;> with_reducible rfl) hHeld ?_; simp only [pqZ]
  refine tkI 7 17 rfl (by intro w hSw; obtain ⟨q1, q2, qs⟩ := HBX.out _ (hSw); go_simp <;> with_reducible rfl) hHeld ?_; simp only [pqZ]
  refine tkJ 8 18 rfl (by intro w; go_simp <;> with_reducible rfl) hHeld ?_; simp only [pqZ]
  refine tkJ 9 19 rfl (by intro w; go_simp <;> with_reducible rfl) hHeld ?_; simp only [pqZ]
  refine tkJ 10 20 rfl (by intro w; go_simp <;> with_reducible rfl) hHeld ?_; simp only [pqZ]
  refine tkJ 11 21 rfl (by intro w; go_simp <;> with_reducible rfl) hHeld ?_; simp only [pqZ]
  refine tkI 12 22 rfl (by intro w hSw; obtain ⟨q1, q2, qs⟩ := HBX.out _ (hSw); go_simp <;> with_reducible rfl) hHeld ?_; simp only [pqZ]
  refine tkJ 14 24 rfl (by intro w; go_simp <;> with_reducible rfl) hHeld ?_; simp only [pqZ]
  refine tkJ 15 25 rfl (by intro w; go_simp <;> with_reducible rfl) hHeld ?_; simp only [pqZ]
  refine rdZ 13 23 rfl (by kernel_rfl) (fun K hK => ?_)
  go_simp
  refine (HSZ.out _ hHeld).mono ?_
  rintro e x1 ⟨rfl, rfl⟩
  have hKeep := hHeld
  go_wp2_with fail
  refine hK.out _ _ (by (try dsimp only); exact hKeep) (fun hHeld => ?_); clear hK K hKeep; try simp only [pqZ]
  refine rdZ 16 26 rfl (by kernel_rfl) (fun K hK => ?_)
  go_simp
  rw [HW2.out]
  refine (HOP.out _ hHeld).mono ?_
  rintro e x2 ⟨s, A, c, R, rfl, hs2, hb2, hsz2, hrow2⟩
  have hKeep := since_step hHeld hb2
  have HS2 := Lib.hid hs2
  have HSZ2 : Hid (w.heap.size ≤ s) := Lib.hid (Nat.le_trans hHeld.size hsz2)
  have HRW2 := Lib.hid (fun k hk => Nat.le_trans hHeld.size (hrow2 k hk))
  clear hs2 hb2 hsz2 hrow2
  go_wp2_with fail
  refine hK.out _ _ (by (try dsimp only); exact hKeep) (fun hHeld => ?_); clear hK K hKeep; try simp only [pqZ]
  refine tkJ 17 9 rfl (by intro w; go_simp <;> with_reducible rfl) hHeld ?_; simp only [pqZ]
  refine tkJ 18 27 rfl (by intro w; go_simp <;> with_reducible rfl) hHeld ?_; simp only [pqZ]
  refine tkJ 19 28 rfl (by intro w; go_simp <;> with_reducible rfl) hHeld ?_; simp only [pqZ]
  refine tkJ 20 7 rfl (by intro w; go_simp <;> with_reducible rfl) hHeld ?_; simp only [pqZ]
  refine tkJ 21 8 rfl (by intro w; go_simp <;> with_reducible rfl) hHeld ?_; simp only [pqZ]
  refine wpAnyH_done (by kernel_rfl) ?_ _
  have HBY := Lib.hid hHeld
  have HBB := Lib.hid ((HBOX.out _ HBY.out))
  have k0 := (box_cells HBB.out 0).1
  have k1 := (box_cells HBB.out 3).1
  have k2 := (box_cells HBB.out 4).1
  have z0 := (box_cells HBB.out 0).2.1
  have z1 := (box_cells HBB.out 3).2.1
  have z2 := (box_cells HBB.out 4).2.1
  have ks := (box_cells HBB.out 0).2.2
  simp only [shC, List.getElem?_toArray, List.getElem?_cons_zero, List.getElem?_cons_succ] at k0 k1 k2
  clear hHeld
  go_wp2_with fail
  go_ret
  refine ⟨s, A, c, R, rfl, ?_, ScA.box HS2.out HBB.out (by decide) (by decide) (by decide) ?_, ?_, HSZ2.out, HRW2.out⟩
  · have e0 := set_blk (i := 0) (.pointer (some ⟨s, 0, none⟩)) HBB.out
    have e1 := set_blk (i := 3) (.int .i64 life) e0
    have e2 := set_blk (i := 4) (.int .i64 era) e1
    simpa [shC] using e2
  · exact ((ChgL.set (l := [h]) 0 _ (by simp)).trans (ChgL.set (l := [h]) 3 _ (by simp)) (fun y hy => .inl hy)).trans (ChgL.set (l := [h]) 4 _ (by simp)) (fun y hy => .inl hy)
  · exact (((ChgL.of_below (l := [h]) HBY.out).trans (ChgL.set (l := [h]) 0 _ (by simp)) (fun y hy => .inl hy)).trans (ChgL.set (l := [h]) 3 _ (by simp)) (fun y hy => .inl hy)).trans (ChgL.set (l := [h]) 4 _ (by simp)) (fun y hy => .inl hy)
end
end Go.Proofs.Ytiggcpfmmgmncaa
