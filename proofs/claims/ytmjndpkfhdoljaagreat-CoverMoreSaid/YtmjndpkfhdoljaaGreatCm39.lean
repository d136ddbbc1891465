import Derived.Test.YtmjndpkfhdoljaaGreatCm25
import Derived.Test.YtmjndpkfhdoljaaGreatCm35
import Derived.Test.YtmjndpkfhdoljaaGreatCm38
import Derived.Test.YtmjndpkfhdoljaaGreatCm02
import Derived.Test.YtmjndpkfhdoljaaGreatCm03
set_option maxHeartbeats 16000000
set_option maxRecDepth 100000
set_option linter.unusedVariables false
set_option linter.unusedSimpArgs false
namespace Go.Proofs.YtmjndpkfhdoljaaGreat
open Go.ChangeShapes Go.WideShapes Go.ChangeAt Go.RowKit
section
def valR (asl : List Ax) (fl : List Fw) (hs : List Hc) (p : Un) : Int × Int := covR true asl (Hq.lotsH hs p.ac p.cl) (getF fl p.ac p.cl)
def exG (b1 b2 b3 : Bool) (O : Int × Int) (P : List Un) (V : Un → Int × Int) : Int × Int :=
  if b1 = false then (0, 3) else if b2 = false then (0, 3) else if b3 = false then (0, 3) else if O.2 ≠ 0 then (0, O.2) else
  match P.find? (fun p => (V p).2 != 0) with
  | some p => (0, (V p).2)
  | none => (fV (-O.1 + (P.map fun p => (V p).1).sum), fE (-O.1 + (P.map fun p => (V p).1).sum))
theorem exG_1 {b2 b3 : Bool} {O : Int × Int} {P : List Un} {V : Un → Int × Int} : exG false b2 b3 O P V = (0, 3) := if_pos rfl
theorem exG_2 {b3 : Bool} {O : Int × Int} {P : List Un} {V : Un → Int × Int} : exG true false b3 O P V = (0, 3) := by unfold exG; simp
theorem exG_3 {O : Int × Int} {P : List Un} {V : Un → Int × Int} : exG true true false O P V = (0, 3) := by unfold exG; simp
theorem exG_must {m e : Int} {P : List Un} {V : Un → Int × Int} (h : e ≠ 0) : exG true true true (m, e) P V = (0, e) := by unfold exG; simp [h]
theorem exG_err {m : Int} {P : List Un} {V : Un → Int × Int} {k : Nat} {n : Int} (hk : k < P.length) (hno : ∀ j, (hj : j < P.length) → j < k → (V P[j]).2 = 0) (hn : (V P[k]).2 = n) (he : n ≠ 0) : exG true true true (m, 0) P V = (0, n) := by
  have e : P.find? (fun u => (V u).2 != 0) = some P[k] := by
    rw [List.find?_eq_some_iff_getElem]
    refine ⟨by simpa [hn] using he, k, hk, rfl, fun j hj => ?_⟩
    simp [hno j (by omega) hj]
  unfold exG
  simp only [Bool.true_eq_false, if_false, ne_eq, not_true_eq_false]
  rw [e]
  simp only [hn]
theorem exG_ok {m : Int} {P : List Un} {V : Un → Int × Int} (h : ∀ j, (hj : j < P.length) → (V P[j]).2 = 0) : exG true true true (m, 0) P V = (fV (-m + (P.map fun p => (V p).1).sum), fE (-m + (P.map fun p => (V p).1).sum)) := by
  have e : P.find? (fun u => (V u).2 != 0) = none := by
    rw [List.find?_eq_none]
    intro x hx
    obtain ⟨j, hj, rfl⟩ := List.getElem_of_mem hx
    simp [h j hj]
  unfold exG
  simp only [Bool.true_eq_false, if_false, ne_eq, not_true_eq_false]
  rw [e]
noncomputable def exR (asl : List Ax) (is : List Ins) (cs : List Pc) (fl : List Fw) (hs : List Hc) (id kind : Int) (L : List Nt) (u : Un) : Int × Int :=
  exG (isH cs) (isF fl) (Hq.isH hs) (ofNR is cs id kind L u) (partsL id kind L u) (valR asl fl hs)
theorem covR_in (b : Bool) (asl : List Ax) (l : List Lt) (c : Int) : In64 (covR b asl l c).1 := by
  unfold covR
  split
  · show In64 (0 : Int); decide
  · split
    · show In64 (0 : Int); decide
    · exact fV_in _
theorem mostR_pos (is : List Ins) (M : List Lg) : ∀ k, 0 ≤ (mostR is M k).1
  | 0 => Int.le_refl _
  | k + 1 => by
    have h := mostR_pos is M k
    rw [mostR]
    split
    · simp only; omega
    · exact h
theorem fV_pos {x : Int} (h : 0 ≤ x) : 0 ≤ fV x := by unfold fV; split <;> omega
theorem marginR_pos (is : List Ins) (M : List Lg) : 0 ≤ (marginR is M).1 := by
  unfold marginR
  split
  · exact Int.le_refl _
  · refine fV_pos ?_
    unfold worstR
    split
    · exact mostR_pos is M 8
    · exact Int.le_refl _
theorem ofNR_pos (is : List Ins) (cs : List Pc) (id kind : Int) (L : List Nt) (u : Un) : 0 ≤ (ofNR is cs id kind L u).1 := by
  unfold ofNR
  split
  · exact Int.le_refl _
  · split
    · exact Int.le_refl _
    · split
      · exact Int.le_refl _
      · exact marginR_pos _ _
def SD (w : World) (aA : Option Addr) (asl : List Ax) (iA : Option Addr) (li : List Iq) (is : List Ins) (pA : Option Addr) (lp : List Po) (cs : List Pc) (fA : Option Addr) (fl : List Fw) (hA : Option Addr) (lh : List Hd) (hs : List Hc) : Prop :=
  Sl w aA (rc Ax.cells asl) ∧ (Sl w iA (rc Iq.cells li) ∧ InTab w li is) ∧ (Sl w pA (rc Po.cells lp) ∧ PoTab w lp cs) ∧ Sl w fA (rc Fw.cells fl) ∧ Sl w hA (rc Hd.cells lh) ∧ HdTab w lh hs
theorem SD.below {w w' : World} {aA : Option Addr} {asl : List Ax} {iA : Option Addr} {li : List Iq} {is : List Ins} {pA : Option Addr} {lp : List Po} {cs : List Pc} {fA : Option Addr} {fl : List Fw} {hA : Option Addr} {lh : List Hd} {hs : List Hc} (h : SD w aA asl iA li is pA lp cs fA fl hA lh hs) (hb : Below w.heap.size w w') : SD w' aA asl iA li is pA lp cs fA fl hA lh hs :=
  ⟨h.1.below hb, ⟨h.2.1.1.below hb, h.2.1.2.below hb⟩, ⟨h.2.2.1.1.below hb, h.2.2.1.2.below hb⟩, h.2.2.2.1.below hb, h.2.2.2.2.1.below hb, h.2.2.2.2.2.below hb⟩
def SB (asl : List Ax) (li : List Iq) (is : List Ins) (lp : List Po) (cs : List Pc) (fl : List Fw) (lh : List Hd) (hs : List Hc) : Prop :=
  (asl.length ≤ 100000 ∧ OkM asl ∧ ∀ g ∈ asl, In64 g.price) ∧ (li.length ≤ 900000 ∧ ∀ i ∈ is, i.mv.length ≤ 900000) ∧ (lp.length ≤ 900000 ∧ (∀ g ∈ cs, g.L.length ≤ 1000) ∧ ∀ g ∈ cs, ∀ y ∈ g.L, In64 y.qty) ∧ (fl.length ≤ 900000 ∧ ∀ x ∈ fl, In64 x.amt) ∧ (lh.length ≤ 900000 ∧ (∀ g ∈ hs, g.L.length ≤ 100000) ∧ ∀ g ∈ hs, ∀ y ∈ g.L, In64 y.qty)
theorem getF_in27 {fl : List Fw} (h : ∀ x ∈ fl, In64 x.amt) (a c : Int) : In64 (getF fl a c) := by
  unfold getF pickL
  cases hf : fl.find? (unF a c) with
  | none => decide
  | some x => exact h x (List.mem_of_find?_eq_some hf)
theorem excess_any (aA : Option Addr) (ac : Nat) (asl : List Ax) (iA : Option Addr) (ic : Nat) (li : List Iq) (is : List Ins) (pA : Option Addr) (pc : Nat) (lp : List Po) (cs : List Pc) (fA : Option Addr) (fc : Nat) (fl : List Fw) (hA : Option Addr) (hc : Nat) (lh : List Hd) (hs : List Hc) (id mem kind : Int) (CA : Option Addr) (cc : Nat) (L : List Nt) (u : Un) (w : World) (hb_ : SB asl li is lp cs fl lh hs) (hL : L.length ≤ 100) (hd : SD w aA asl iA li is pA lp cs fA fl hA lh hs) (hsL : Sl w CA (rc Nt.cells L)) :
  Calls Tryz.prog 9 #[.agg #[.slice aA asl.length ac, .slice iA li.length ic, .slice pA lp.length pc, .slice fA fl.length fc, .slice hA lh.length hc], .agg #[.int .i64 id, .int .i64 mem, .int .i64 kind, .slice CA L.length cc], u.val] w fun e w' => e = .returned (.tuple #[.int .i64 (exR asl is cs fl hs id kind L u).1, .int .i64 (exR asl is cs fl hs id kind L u).2]) ∧ Below w.heap.size w w' := by
 have hB0 := since_alloc (since_alloc (since_alloc (Below.refl _ w) (.cells #[.slice aA asl.length ac, .slice iA li.length ic, .slice pA lp.length pc, .slice fA fl.length fc, .slice hA lh.length hc] 34)) (.cells #[.int .i64 id, .int .i64 mem, .int .i64 kind, .slice CA L.length cc] 31)) (.cells #[.int .i64 u.ac, .int .i64 u.cl] 41)
 have K1 := ((Bk.new w #[.slice aA asl.length ac, .slice iA li.length ic, .slice pA lp.length pc, .slice fA fl.length fc, .slice hA lh.length hc] 34).alloc (.cells #[.int .i64 id, .int .i64 mem, .int .i64 kind, .slice CA L.length cc] 31)).alloc (.cells #[.int .i64 u.ac, .int .i64 u.cl] 41)
 have K2 := (Bk.new (w.alloc (.cells #[.slice aA asl.length ac, .slice iA li.length ic, .slice pA lp.length pc, .slice fA fl.length fc, .slice hA lh.length hc] 34)) #[.int .i64 id, .int .i64 mem, .int .i64 kind, .slice CA L.length cc] 31).alloc (.cells #[.int .i64 u.ac, .int .i64 u.cl] 41)
 have K3 := Bk.new ((w.alloc (.cells #[.slice aA asl.length ac, .slice iA li.length ic, .slice pA lp.length pc, .slice fA fl.length fc, .slice hA lh.length hc] 34)).alloc (.cells #[.int .i64 id, .int .i64 mem, .int .i64 kind, .slice CA L.length cc] 31)) #[.int .i64 u.ac, .int .i64 u.cl] 41
 rw [World.size_alloc] at K2
 rw [World.size_alloc, World.size_alloc] at K3
 obtain ⟨⟨ha1, ha2, ha3⟩, ⟨hi1, hi2⟩, ⟨hp1, hp2, hp3⟩, ⟨hf1, hf2⟩, ⟨hh1, hh2, hh3⟩⟩ := hb_
 have HI1 := fun V (h : Below w.heap.size w V) => his_any pA pc lp cs V hp1 (fun g hg => Nat.le_trans (hp2 g hg) (by omega)) (hd.below h).2.2.1.1 (hd.below h).2.2.1.2
 have HI2 := fun V (h : Below w.heap.size w V) => pis_any fA fc fl V (by omega) (hd.below h).2.2.2.1
 have HI3 := fun V (h : Below w.heap.size w V) => Hq.his_any hA hc lh hs V hh1 (fun g hg => Nat.le_trans (hh2 g hg) (by omega)) (hd.below h).2.2.2.2.1 (hd.below h).2.2.2.2.2
 have HOF := fun V (h : Below w.heap.size w V) => nof_any iA ic li is pA pc lp cs id mem kind CA cc L u V hi1 hi2 hp1 hp2 hp3 hL (hd.below h).2.1.1 (hd.below h).2.1.2 (hd.below h).2.2.1.1 (hd.below h).2.2.1.2 (hsL.below h)
 have HPA := fun V (h : Below w.heap.size w V) => nparts_any id mem kind CA cc L u V (by omega) (hsL.below h)
 have HLO := Lib.hid (fun a c V (h : Below w.heap.size w V) => Hq.hlots_any hA hc lh hs a c V hh1 (fun g hg => Nat.le_trans (hh2 g hg) (by omega)) (hd.below h).2.2.2.2.1 (hd.below h).2.2.2.2.2)
 have HPG := Lib.hid (fun a c V (h : Below w.heap.size w V) => pget_any fA fc fl a c V (by omega) (hd.below h).2.2.2.1)
 have HVL : Hid (∀ (p : Un) (A1 : Option Addr) (c1 : Nat) V, Below w.heap.size w V → Sl V A1 (rc Lt.cells (Hq.lotsH hs p.ac p.cl)) → Calls Tryz.prog 19 #[.slice aA asl.length ac, .slice A1 (Hq.lotsH hs p.ac p.cl).length c1, .int .i64 (getF fl p.ac p.cl)] V fun e w' => e = .returned (.tuple #[.int .i64 (valR asl fl hs p).1, .int .i64 (valR asl fl hs p).2]) ∧ Below V.heap.size V w') := Lib.hid fun p A1 c1 V h hsl => cvalue_any aA ac asl A1 c1 (Hq.lotsH hs p.ac p.cl) (getF fl p.ac p.cl) V ha1 (Hq.lotsH_len hh2 _ _) ha2 ha3 (Hq.lots_in6 hh3 _ _) (getF_in27 hf2 _ _) (hd.below h).1 hsl
 have hmi := ofNR_in is cs id kind L u
 have hmp := ofNR_pos is cs id kind L u
 have HIN : Hid (∀ p, In64 (valR asl fl hs p).1) := Lib.hid fun p => covR_in _ _ _ _
 have hpn := partsL_len id kind L u
 obtain ⟨R, hR⟩ : ∃ R, exR asl is cs fl hs id kind L u = R := ⟨_, rfl⟩
 rw [hR]
 unfold exR at hR
 have HRR := Lib.hid hR
 clear hR hd hsL ha1 ha2 ha3 hi1 hi2 hp1 hp2 hp3 hf1 hf2 hh1 hh2 hh3
 generalize ofNR is cs id kind L u = O at *
 generalize partsL id kind L u = P at *
 generalize valR asl fl hs = f at *
 obtain ⟨m, me⟩ := O
 try simp only at hmi hmp HOF
 unfold Un.val at *
 try simp only at HOF HPA
 go_enter Tryz.func9, Tryz.ntmps9
 go_upto_region 1 with fail
 generalize hWW : (((w.alloc (.cells #[.slice aA asl.length ac, .slice iA li.length ic, .slice pA lp.length pc, .slice fA fl.length fc, .slice hA lh.length hc] 34)).alloc (.cells #[.int .i64 id, .int .i64 mem, .int .i64 kind, .slice CA L.length cc] 31)).alloc (.cells #[.int .i64 u.ac, .int .i64 u.cl] 41)) = W at *
 clear hWW
 have HQ : Hid (∀ V, Below W.heap.size W V → (V.cell? ⟨w.heap.size, 0, none⟩ = some (.slice aA asl.length ac) ∧ V.cell? ⟨w.heap.size, 1, none⟩ = some (.slice iA li.length ic) ∧ V.cell? ⟨w.heap.size, 2, none⟩ = some (.slice pA lp.length pc) ∧ V.cell? ⟨w.heap.size, 3, none⟩ = some (.slice fA fl.length fc) ∧ V.cell? ⟨w.heap.size, 4, none⟩ = some (.slice hA lh.length hc)) ∧ (V.cell? ⟨w.heap.size + 1, 0, none⟩ = some (.int .i64 id) ∧ V.cell? ⟨w.heap.size + 1, 1, none⟩ = some (.int .i64 mem) ∧ V.cell? ⟨w.heap.size + 1, 2, none⟩ = some (.int .i64 kind) ∧ V.cell? ⟨w.heap.size + 1, 3, none⟩ = some (.slice CA L.length cc)) ∧ (V.cell? ⟨w.heap.size + 1 + 1, 0, none⟩ = some (.int .i64 u.ac) ∧ V.cell? ⟨w.heap.size + 1 + 1, 1, none⟩ = some (.int .i64 u.cl))) := Lib.hid fun V h => ⟨⟨(K1.below h).2 0, (K1.below h).2 1, (K1.below h).2 2, (K1.below h).2 3, (K1.below h).2 4⟩, ⟨(K2.below h).2 0, (K2.below h).2 1, (K2.below h).2 2, (K2.below h).2 3⟩, (K3.below h).2 0, (K3.below h).2 1⟩
 have HB : Hid (∀ V, Below W.heap.size W V → Below w.heap.size w V) := Lib.hid fun V h => hB0.trans (h.mono hB0.size)
 have HI1 := Lib.hid (fun V (h : Below W.heap.size W V) => HI1 V (HB.out _ h))
 have HI2 := Lib.hid (fun V (h : Below W.heap.size W V) => HI2 V (HB.out _ h))
 have HI3 := Lib.hid (fun V (h : Below W.heap.size W V) => HI3 V (HB.out _ h))
 have HOF := Lib.hid (fun V (h : Below W.heap.size W V) => HOF V (HB.out _ h))
 have HPA := Lib.hid (fun V (h : Below W.heap.size W V) => HPA V (HB.out _ h))
 have HLO := Lib.hid (fun a c V (h : Below W.heap.size W V) => HLO.out a c V (HB.out _ h))
 have HPG := Lib.hid (fun a c V (h : Below W.heap.size W V) => HPG.out a c V (HB.out _ h))
 have HVL := Lib.hid (fun p A1 c1 V (h : Below W.heap.size W V) => HVL.out p A1 c1 V (HB.out _ h))
 have hC := Below.refl W.heap.size W
 clear K1 K2 K3 hB0
 generalize isH cs = t1 at *
 generalize isF fl = t2 at *
 generalize Hq.isH hs = t3 at *
 obtain ⟨⟨s0, s1, s2, s3, s4⟩, ⟨p0, p1, p2, p3⟩, ⟨u0, u1⟩⟩ := HQ.out _ hC
 cases t1 with
 | false =>
  have HR := Lib.hid (HRR.out.symm.trans exG_1)
  clear HRR
  go_wp2_with fail
  refine (HI1.out _ hC).mono ?_
  rintro e y0 ⟨rfl, hb⟩
  have hC := since_step hC hb
  go_wp2_with fail
  go_ret2
  exact ⟨by rw [HR.out]; rfl, HB.out _ hC⟩
 | true =>
  cases t2 with
  | false =>
   have HR := Lib.hid (HRR.out.symm.trans exG_2)
   clear HRR
   go_wp2_with fail
   refine (HI1.out _ hC).mono ?_
   rintro e y0 ⟨rfl, hb⟩
   have hC := since_step hC hb
   clear s0 s1 s2 s3 s4 p0 p1 p2 p3 u0 u1 hb
   obtain ⟨⟨s0, s1, s2, s3, s4⟩, ⟨p0, p1, p2, p3⟩, ⟨u0, u1⟩⟩ := HQ.out _ hC
   go_wp2_with fail
   refine (HI2.out _ hC).mono ?_
   rintro e y0 ⟨rfl, hb⟩
   have hC := since_step hC hb
   go_wp2_with fail
   go_ret2
   exact ⟨by rw [HR.out]; rfl, HB.out _ hC⟩
  | true =>
   cases t3 with
   | false =>
    have HR := Lib.hid (HRR.out.symm.trans exG_3)
    clear HRR
    go_wp2_with fail
    refine (HI1.out _ hC).mono ?_
    rintro e y0 ⟨rfl, hb⟩
    have hC := since_step hC hb
    clear s0 s1 s2 s3 s4 p0 p1 p2 p3 u0 u1 hb
    obtain ⟨⟨s0, s1, s2, s3, s4⟩, ⟨p0, p1, p2, p3⟩, ⟨u0, u1⟩⟩ := HQ.out _ hC
    go_wp2_with fail
    refine (HI2.out _ hC).mono ?_
    rintro e y1 ⟨rfl, hb⟩
    have hC := since_step hC hb
    clear s0 s1 s2 s3 s4 p0 p1 p2 p3 u0 u1 hb
    obtain ⟨⟨s0, s1, s2, s3, s4⟩, ⟨p0, p1, p2, p3⟩, ⟨u0, u1⟩⟩ := HQ.out _ hC
    go_wp2_with fail
    refine (HI3.out _ hC).mono ?_
    rintro e y0 ⟨rfl, hb⟩
    have hC := since_step hC hb
    go_wp2_with fail
    go_ret2
    exact ⟨by rw [HR.out]; rfl, HB.out _ hC⟩
   | true =>
    by_cases he : me = 0
    ·subst he
     have HER := Lib.hid (fun k n (hk : k < P.length) hno hn he => exG_err (m := m) (V := f) (k := k) (n := n) hk hno hn he)
     have HOK := Lib.hid (fun h => exG_ok (m := m) (P := P) (V := f) h)
     have hw : IntKind.i64.wrap (-m) = -m := IntWalk.i64_in _ (by unfold In64 at hmi; omega)
     go_wp2_with fail
     refine (HI1.out _ hC).mono ?_
     rintro e y0 ⟨rfl, hb⟩
     have hC := since_step hC hb
     clear s0 s1 s2 s3 s4 p0 p1 p2 p3 u0 u1 hb
     obtain ⟨⟨s0, s1, s2, s3, s4⟩, ⟨p0, p1, p2, p3⟩, ⟨u0, u1⟩⟩ := HQ.out _ hC
     go_wp2_with fail
     refine (HI2.out _ hC).mono ?_
     rintro e y1 ⟨rfl, hb⟩
     have hC := since_step hC hb
     clear s0 s1 s2 s3 s4 p0 p1 p2 p3 u0 u1 hb
     obtain ⟨⟨s0, s1, s2, s3, s4⟩, ⟨p0, p1, p2, p3⟩, ⟨u0, u1⟩⟩ := HQ.out _ hC
     go_wp2_with fail
     refine (HI3.out _ hC).mono ?_
     rintro e y2 ⟨rfl, hb⟩
     have hC := since_step hC hb
     clear s0 s1 s2 s3 s4 p0 p1 p2 p3 u0 u1 hb
     obtain ⟨⟨s0, s1, s2, s3, s4⟩, ⟨p0, p1, p2, p3⟩, ⟨u0, u1⟩⟩ := HQ.out _ hC
     go_wp2_with fail
     refine (HOF.out _ hC).mono ?_
     rintro e y3 ⟨rfl, hb⟩
     have hC := since_step hC hb
     clear s0 s1 s2 s3 s4 p0 p1 p2 p3 u0 u1 hb
     obtain ⟨⟨s0, s1, s2, s3, s4⟩, ⟨p0, p1, p2, p3⟩, ⟨u0, u1⟩⟩ := HQ.out _ (hC.alloc hC.size (.cells #[.int .i64 (-m)] 2))
     have hown1 := own_one y3 y3.heap.size (Nat.le_refl _) (-m)
     have hCA := since_alloc hC (.cells #[.int .i64 (-m)] 2)
     have hZ := since_alloc (Below.refl y3.heap.size y3) (.cells #[.int .i64 (-m)] 2)
     go_upto_region 7 with fail
     generalize hYY : y3.alloc (.cells #[.int .i64 (-m)] 2) = Z at *
     clear hYY hw
     go_wp2_with fail
     refine (HPA.out _ hCA).mono ?_
     rintro e y4 ⟨⟨PA_, pc_, rfl, oP⟩, hb⟩
     have hC4 := since_step hCA hb
     have hown1 := own_below hown1 hb
     have HC2 : Hid (∀ V, Below y3.heap.size y3 V → Below W.heap.size W V) := Lib.hid fun V h => hC.trans (h.mono hC.size)
     have HMI : Hid (In64 (-m)) := Lib.hid (by unfold In64 at *; omega)
     have hB1 := since_step hZ hb
     clear s0 s1 s2 s3 s4 p0 p1 p2 p3 u0 u1 hb hZ hC hC4 hCA hmi hmp HI1 HI2 HI3 HOF HPA
     go_wp2_with fail
     go_loopw [10, 51] (fun out iv wr => ∃ (k : Nat) (A' : Option Addr) (c' : Nat), k ≤ P.length ∧ iv = .int .i64 k ∧ out = .slice A' (k + 1) c' ∧ (∀ j, (hj : j < P.length) → j < k → (f P[j]).2 = 0) ∧ wr.ownsRow y3.heap.size 2 1 (.slice A' (k + 1) c') (k + 1) (ints .i64 (-m :: (P.take k).map fun p => (f p).1)) ∧ wr.ownsRow Z.heap.size 41 2 (.slice PA_ P.length pc_) P.length (rc Un.cells P) ∧ Below y3.heap.size y3 wr) (fun _ iv _ => P.length - (intOf iv).toNat)
     case atStart => exact ⟨0, _, _, by omega, rfl, rfl, fun j hj h => absurd h (by omega), hown1, oP, hB1⟩
     case round =>
      obtain ⟨k, A', c', hk, rfl, rfl, hno, hown, oPr, hB⟩ := hrel
      clear hown1 hB1 oP
      by_cases hlt : k < P.length
      ·have hlk : (k : Int) < (P.length : Int) := by omega
       have hge : (0 : Int) ≤ (k : Int) := by omega
       obtain ⟨b, o, rfl, hbw, hg⟩ := (Sl.of_own oPr).un hlt
       have HST : Hid ((P.take (k + 1)).map (fun p => (f p).1) = (P.take k).map (fun p => (f p).1) ++ [(f P[k]).1]) := Lib.hid (by rw [take_snoc P k hlt, List.map_append]; rfl)
       have HEK := Lib.hid (fun n hn he => HER.out k n hlt hno hn he)
       have HNX : Hid ((f P[k]).2 = 0 → ∀ j, (hj : j < P.length) → j < k + 1 → (f P[j]).2 = 0) := Lib.hid fun h j hj hjk => by
        rcases Nat.lt_or_ge j k with h' | h'
        ·exact hno j hj h'
        ·obtain rfl : j = k := by omega
         exact h
       clear hno
       generalize P[k] = v at *
       obtain ⟨ua, uc⟩ := v
       obtain ⟨g0, g1⟩ := hg
       simp only at g0 g1
       have hsz := hB.size
       have hBA := since_alloc hB (.cells #[.int .i64 ua, .int .i64 uc] 41)
       have KX := Bk.new wr #[.int .i64 ua, .int .i64 uc] 41
       have hownA := hown.alloc (.cells #[.int .i64 ua, .int .i64 uc] 41)
       have oPA := oPr.alloc (.cells #[.int .i64 ua, .int .i64 uc] 41)
       clear oPr
       have HVA := HVL.out ⟨ua, uc⟩
       obtain ⟨fv, fe, hf⟩ : ∃ fv fe, f ⟨ua, uc⟩ = (fv, fe) := ⟨_, _, rfl⟩
       rw [hf] at HST HNX HEK
       simp only [hf] at HVA
       simp only at HST HNX HEK HVA
       have HVA := Lib.hid HVA
       clear hf hown
       go_upto_region 10 with fail
       generalize hYY : wr.alloc (.cells #[.int .i64 ua, .int .i64 uc] 41) = Y at *
       generalize hGG : wr.heap.size = gy at *
       clear hYY hGG g0 g1
       have HC3 : Hid (∀ V, Below Y.heap.size Y V → Below W.heap.size W V) := Lib.hid fun V h => HC2.out _ (hBA.trans (h.mono hBA.size))
       have HQ1 : Hid (∀ V, Below Y.heap.size Y V → (V.cell? ⟨w.heap.size, 0, none⟩ = some (.slice aA asl.length ac) ∧ V.cell? ⟨w.heap.size, 1, none⟩ = some (.slice iA li.length ic) ∧ V.cell? ⟨w.heap.size, 2, none⟩ = some (.slice pA lp.length pc) ∧ V.cell? ⟨w.heap.size, 3, none⟩ = some (.slice fA fl.length fc) ∧ V.cell? ⟨w.heap.size, 4, none⟩ = some (.slice hA lh.length hc)) ∧ (V.cell? ⟨gy, 0, none⟩ = some (.int .i64 ua) ∧ V.cell? ⟨gy, 1, none⟩ = some (.int .i64 uc))) := Lib.hid fun V h => ⟨(HQ.out _ (HC3.out _ h)).1, (KX.below h).2 0, (KX.below h).2 1⟩
       clear KX
       go_cut [13, 14] (fun s13 s14 wx => s13 = .int .i64 fv ∧ s14 = .int .i64 fe ∧ Below Y.heap.size Y wx)
       case first =>
        refine wp_region_held_drew (S := (fun V => Below Y.heap.size Y V)) (by kernel_rfl) (by exact (Below.refl _ _).drew) (fun hHeld => ?_)
        refine tkJ 0 56 rfl (by intro w; go_simp <;> with_reducible rfl) hHeld ?_; simp only [pqZ]
        refine tkI 1 57 rfl (by intro w hSw; obtain ⟨⟨s0, s1, s2, s3, s4⟩, ⟨x0, x1⟩⟩ := HQ1.out _ (hSw); go_simp <;> with_reducible rfl) hHeld ?_; simp only [pqZ]
        refine tkJ 2 58 rfl (by intro w; go_simp <;> with_reducible rfl) hHeld ?_; simp only [pqZ]
        refine tkI 3 59 rfl (by intro w hSw; obtain ⟨⟨s0, s1, s2, s3, s4⟩, ⟨x0, x1⟩⟩ := HQ1.out _ (hSw); go_simp <;> with_reducible rfl) hHeld ?_; simp only [pqZ]
        refine tkI 4 60 rfl (by intro w hSw; obtain ⟨⟨s0, s1, s2, s3, s4⟩, ⟨x0, x1⟩⟩ := HQ1.out _ (hSw); go_simp <;> with_reducible rfl) hHeld ?_; simp only [pqZ]
        refine tkJ 6 62 rfl (by intro w; go_simp <;> with_reducible rfl) hHeld ?_; simp only [pqZ]
        refine tkI 7 63 rfl (by intro w hSw; obtain ⟨⟨s0, s1, s2, s3, s4⟩, ⟨x0, x1⟩⟩ := HQ1.out _ (hSw); go_simp <;> with_reducible rfl) hHeld ?_; simp only [pqZ]
        refine tkI 8 64 rfl (by intro w hSw; obtain ⟨⟨s0, s1, s2, s3, s4⟩, ⟨x0, x1⟩⟩ := HQ1.out _ (hSw); go_simp <;> with_reducible rfl) hHeld ?_; simp only [pqZ]
        refine rdZ 5 61 rfl (by kernel_rfl) (fun K hK => ?_)
        go_simp
        refine (HLO.out _ _ _ (HC3.out _ hHeld)).mono ?_
        rintro e y1 ⟨⟨A1, c1, rfl, o1_⟩, hk1⟩
        have hKeep := since_step hHeld hk1
        have sl1 := Sl.of_own o1_
        clear hk1 o1_
        go_wp2_with fail
        refine hK.out _ _ (by (try dsimp only); exact hKeep) (fun hHeld => ?_); clear hK K hKeep; try simp only [pqZ]
        refine rdZ 9 65 rfl (by kernel_rfl) (fun K hK => ?_)
        go_simp
        refine (HPG.out _ _ _ (HC3.out _ hHeld)).mono ?_
        rintro e y2 ⟨rfl, hk1⟩
        have hKeep := since_step hHeld hk1
        have sl1 := sl1.below hk1
        clear hk1
        go_wp2_with fail
        refine hK.out _ _ (by (try dsimp only); exact hKeep) (fun hHeld => ?_); clear hK K hKeep; try simp only [pqZ]
        refine rdZ 10 66 rfl (by kernel_rfl) (fun K hK => ?_)
        go_simp
        refine (HVA.out _ _ _ (HC3.out _ hHeld) sl1).mono ?_
        rintro e y3 ⟨rfl, hk1⟩
        have hKeep := since_step hHeld hk1
        clear hk1
        go_wp2_with fail
        refine hK.out _ _ (by (try dsimp only); exact hKeep) (fun hHeld => ?_); clear hK K hKeep; try simp only [pqZ]
        refine tkJ 11 55 rfl (by intro w; go_simp <;> with_reducible rfl) hHeld ?_; simp only [pqZ]
        refine tkJ 12 67 rfl (by intro w; go_simp <;> with_reducible rfl) hHeld ?_; simp only [pqZ]
        refine tkJ 13 68 rfl (by intro w; go_simp <;> with_reducible rfl) hHeld ?_; simp only [pqZ]
        refine tkJ 14 13 rfl (by intro w; go_simp <;> with_reducible rfl) hHeld ?_; simp only [pqZ]
        refine tkJ 15 14 rfl (by intro w; go_simp <;> with_reducible rfl) hHeld ?_; simp only [pqZ]
        refine wpAnyH_done (by kernel_rfl) ?_ _
        go_wp2_with fail
        go_meet
        case rel => exact ⟨rfl, rfl, hHeld⟩
       case rest =>
        obtain ⟨rfl, rfl, hbx⟩ := hcut
        have hB3 := since_step hBA hbx
        have hown3 := own_below hownA hbx
        have HP3 := Lib.hid (own_below oPA hbx)
        clear oPA
        have hsz3 := hB3.size
        clear hownA hbx HVA HC3 HQ1
        by_cases h0 : fe = 0
        ·subst h0
         have HNO := Lib.hid (HNX.out rfl)
         clear HNX HEK
         go_wp2_with (first
          | (at_builtin; refine wpList_app rfl (.tmp 72) (.tmp 74) rfl ENn rfl rfl (hown3.alloc _) (m := 1) (news := [.int .i64 fv]) rfl (Sl.new_ _ _ _) (by intro u hu; rw [List.mem_singleton.1 hu]; rfl) (by unfold maxLen; omega) (by omega) (by simp only [World.size_alloc]; omega) ?_; intro A2 c2 w3 hown4 hg3 hb3)
          | fail)
         have oP4 := own_kept_types (by decide) (HP3.out.alloc _) (hown3.alloc _) hg3
         go_roundw
         case rel =>
          refine ⟨k + 1, A2, c2, by omega, by go_num, rfl, HNO.out, ?_, oP4, (since_alloc hB3 _).trans hb3⟩
          rw [HST.out, ← List.cons_append, ← ints_snoc]; exact hown4
         case measure => simp [intOf]; omega
        ·have HR := Lib.hid (HRR.out.symm.trans (HEK.out fe rfl h0))
         have bn : (fe != 0) = true := by simpa using h0
         clear HNX HEK h0 HST
         go_wp2_with fail
         go_ret2
         exact ⟨by rw [HR.out]; rfl, HB.out _ (HC2.out _ hB3)⟩
      ·obtain rfl : k = P.length := by omega
       rw [List.take_length] at hown
       have HR := Lib.hid (HRR.out.symm.trans (HOK.out fun j hj => hno j hj hj))
       have hml : (-m :: P.map fun u => (f u).1).length = P.length + 1 := by simp
       have hFS := fun V h => fsum_any A' c' (-m :: P.map fun u => (f u).1) V (by rw [hml]; omega) (fun x hx => by
        rcases List.mem_cons.1 hx with rfl | hx
        ·exact HMI.out
        ·obtain ⟨u, _, rfl⟩ := List.mem_map.1 hx
         exact HIN.out u) h
       rw [hml, List.sum_cons] at hFS
       have HFS := Lib.hid hFS
       clear hFS hno hml
       go_wp2_with fail
       refine (HFS.out _ (Sl.of_own hown)).mono ?_
       rintro e u1 ⟨rfl, hb⟩
       have hB3 := since_step hB hb
       go_wp2_with fail
       go_ret2
       exact ⟨by rw [HR.out]; rfl, HB.out _ (HC2.out _ hB3)⟩
    ·have HR := Lib.hid (HRR.out.symm.trans (exG_must he))
     have bn : (me != 0) = true := by simpa using he
     clear HRR he
     go_wp2_with fail
     refine (HI1.out _ hC).mono ?_
     rintro e y0 ⟨rfl, hb⟩
     have hC := since_step hC hb
     clear s0 s1 s2 s3 s4 p0 p1 p2 p3 u0 u1 hb
     obtain ⟨⟨s0, s1, s2, s3, s4⟩, ⟨p0, p1, p2, p3⟩, ⟨u0, u1⟩⟩ := HQ.out _ hC
     go_wp2_with fail
     refine (HI2.out _ hC).mono ?_
     rintro e y1 ⟨rfl, hb⟩
     have hC := since_step hC hb
     clear s0 s1 s2 s3 s4 p0 p1 p2 p3 u0 u1 hb
     obtain ⟨⟨s0, s1, s2, s3, s4⟩, ⟨p0, p1, p2, p3⟩, ⟨u0, u1⟩⟩ := HQ.out _ hC
     go_wp2_with fail
     refine (HI3.out _ hC).mono ?_
     rintro e y2 ⟨rfl, hb⟩
     have hC := since_step hC hb
     clear s0 s1 s2 s3 s4 p0 p1 p2 p3 u0 u1 hb
     obtain ⟨⟨s0, s1, s2, s3, s4⟩, ⟨p0, p1, p2, p3⟩, ⟨u0, u1⟩⟩ := HQ.out _ hC
     go_wp2_with fail
     refine (HOF.out _ hC).mono ?_
     rintro e y3 ⟨rfl, hb⟩
     have hC := since_step hC hb
     go_wp2_with fail
     go_ret2
     exact ⟨by rw [HR.out]; rfl, HB.out _ hC⟩
end
section
def BindRes (B : Nat) (w' : World) (e : Ending) (id mem kind E : Int) (L : List Nt) : Prop :=
  (E ≠ 0 ∧ e = .returned (.tuple #[.agg #[.int .i64 0, .int .i64 0, .int .i64 0, .slice none 0 0], .int .i64 E])) ∨
  (E = 0 ∧ ∃ A' c', e = .returned (.tuple #[.agg #[.int .i64 id, .int .i64 mem, .int .i64 kind, .slice A' L.length c'], .int .i64 0]) ∧ w'.ownsRow B 3 1 (.slice A' L.length c') L.length (rc Nt.cells L))
structure Bz (w : World) (b : Nat) : Prop where
  bk : Bk w b #[.int .i64 0, .int .i64 0, .int .i64 0, .slice none 0 0]
  fz : ∀ i, w.frozen? ⟨b, i, none⟩ = false
theorem Bz.new (w : World) : Bz (w.alloc (.cells #[.int .i64 0, .int .i64 0, .int .i64 0, .slice none 0 0] 31)) w.heap.size := ⟨Bk.new w _ _, fun i => by simp⟩
theorem Bz.below {w w' : World} {b : Nat} (h : Bz w b) (hb : Below w.heap.size w w') : Bz w' b := ⟨h.bk.below hb, fun i => by rw [hb.frozen (p := ⟨b, i, none⟩) h.bk.1]; exact h.fz i⟩
theorem Bz.got {w : World} {b : Nat} (h : Bz w b) : w.cell? ⟨b, 0, none⟩ = some (.int .i64 0) ∧ w.cell? ⟨b, 1, none⟩ = some (.int .i64 0) ∧ w.cell? ⟨b, 2, none⟩ = some (.int .i64 0) ∧ w.cell? ⟨b, 3, none⟩ = some (.slice none 0 0) := by
  have h1 := h.bk.2
  exact ⟨h1 0, h1 1, h1 2, h1 3⟩
structure Af (w : World) (b : Nat) (g : Ac) : Prop where
  bx : Ac.Bx w b g
  fz : ∀ i, w.frozen? ⟨b, i, none⟩ = false
theorem Af.below {w w' : World} {b : Nat} {g : Ac} (h : Af w b g) (hb : Below w.heap.size w w') : Af w' b g := ⟨h.bx.below hb, fun i => by rw [hb.frozen (p := ⟨b, i, none⟩) h.bx.lt]; exact h.fz i⟩
end
end Go.Proofs.YtmjndpkfhdoljaaGreat
