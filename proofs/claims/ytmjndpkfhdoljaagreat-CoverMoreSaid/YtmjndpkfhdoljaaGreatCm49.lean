import Derived.Test.YtmjndpkfhdoljaaGreatCm40
import Derived.Test.YtmjndpkfhdoljaaGreatCm48
import Derived.Test.YtmjndpkfhdoljaaGreatCm02
import Derived.Test.YtmjndpkfhdoljaaGreatCm25
import Derived.Test.YtmjndpkfhdoljaaGreatCm47
set_option maxHeartbeats 16000000
set_option maxRecDepth 100000
set_option linter.unusedVariables false
set_option linter.unusedSimpArgs false
namespace Go.Proofs.YtmjndpkfhdoljaaGreat
open Go.ChangeShapes Go.WideShapes Go.ChangeAt Go.RowKit
section
theorem own_set5 {w : World} {g e size n : Nat} {v : Value} {xs : List Value} (h : w.ownsRow (g + 1) e size v n xs) (a0 a1 a2 a3 a4 : Value) : (((((w.setCell ⟨g, 0, none⟩ a0).setCell ⟨g, 1, none⟩ a1).setCell ⟨g, 2, none⟩ a2).setCell ⟨g, 3, none⟩ a3).setCell ⟨g, 4, none⟩ a4).ownsRow (g + 1) e size v n xs := by
  have hne : v.ownBlock ≠ some g := fun he => by have := own_ge h g he; omega
  exact own_far1 (own_far1 (own_far1 (own_far1 (own_far1 h (p := ⟨g, 0, none⟩) hne a0) (p := ⟨g, 1, none⟩) hne a1) (p := ⟨g, 2, none⟩) hne a2) (p := ⟨g, 3, none⟩) hne a3) (p := ⟨g, 4, none⟩) hne a4
structure SDL (w0 : World) (B : Nat) (w : World) (aA : Option Addr) (ac : Nat) (asl : List Ax) (iA : Option Addr) (ic : Nat) (li : List Iq) (is : List Ins) (pA : Option Addr) (pc : Nat) (lp : List Po) (cs : List Pc) (fA : Option Addr) (fl : List Fw) (hA : Option Addr) (hc : Nat) (lh : List Hd) (hs : List Hc) : Prop where
  oa : w.ownsRow B 63 3 (.slice aA asl.length ac) asl.length (rc Ax.cells asl)
  oi : w.ownsRow B 92 5 (.slice iA li.length ic) li.length (rc Iq.cells li)
  ti : InTab w0 li is
  op : w.ownsRow B 95 3 (.slice pA lp.length pc) lp.length (rc Po.cells lp)
  tp : PoTab w0 lp cs
  sf : Sl w0 fA (rc Fw.cells fl)
  oh : w.ownsRow B 98 3 (.slice hA lh.length hc) lh.length (rc Hd.cells lh)
  th : HdTab w0 lh hs
  bw : Below w0.heap.size w0 w
section
variable {w0 w w' : World} {B : Nat} {aA iA pA fA hA : Option Addr} {ac ic pc hc : Nat} {asl : List Ax} {li : List Iq} {is : List Ins} {lp : List Po} {cs : List Pc} {fl : List Fw} {lh : List Hd} {hs : List Hc}
theorem SDL.sd (h : SDL w0 B w aA ac asl iA ic li is pA pc lp cs fA fl hA hc lh hs) : SD w aA asl iA li is pA lp cs fA fl hA lh hs :=
  ⟨Sl.of_own h.oa, ⟨Sl.of_own h.oi, h.ti.below h.bw⟩, ⟨Sl.of_own h.op, h.tp.below h.bw⟩, h.sf.below h.bw, Sl.of_own h.oh, h.th.below h.bw⟩
theorem SDL.below (h : SDL w0 B w aA ac asl iA ic li is pA pc lp cs fA fl hA hc lh hs) (hb : Below w.heap.size w w') : SDL w0 B w' aA ac asl iA ic li is pA pc lp cs fA fl hA hc lh hs :=
  ⟨own_below h.oa hb, own_below h.oi hb, h.ti, own_below h.op hb, h.tp, h.sf, own_below h.oh hb, h.th, since_step h.bw hb⟩
theorem SDL.set (h : SDL w0 B w aA ac asl iA ic li is pA pc lp cs fA fl hA hc lh hs) {p : Addr} (h1 : w0.heap.size ≤ p.block) (h2 : p.block < B) (u : Value) : SDL w0 B (w.setCell p u) aA ac asl iA ic li is pA pc lp cs fA fl hA hc lh hs := by
  have ne : ∀ {e size n : Nat} {v : Value} {xs : List Value}, w.ownsRow B e size v n xs → v.ownBlock ≠ some p.block := fun ho he => by have := own_ge ho _ he; omega
  exact ⟨own_far1 h.oa (ne h.oa) u, own_far1 h.oi (ne h.oi) u, h.ti, own_far1 h.op (ne h.op) u, h.tp, h.sf, own_far1 h.oh (ne h.oh) u, h.th, Below.setCell h.bw h1 u⟩
theorem SDL.cap (h : SDL w0 B w aA ac asl iA ic li is pA pc lp cs fA fl hA hc lh hs) : Hq.CapH hA lh.length hc := Hq.CapH.of_own h.oh
theorem SDL.base (h : SDL w0 B w aA ac asl iA ic li is pA pc lp cs fA fl hA hc lh hs) {B2 : Nat} (hB : B2 ≤ B) : SDL w0 B2 w aA ac asl iA ic li is pA pc lp cs fA fl hA hc lh hs :=
  ⟨own_base h.oa hB, own_base h.oi hB, h.ti, own_base h.op hB, h.tp, h.sf, own_base h.oh hB, h.th, h.bw⟩
end
def Few27L (w0 : World) (B : Nat) (fl0 : List Fw) (w' : World) (e : Ending) : Prop :=
  ∃ (aA : Option Addr) (ac : Nat) (asl : List Ax) (iA : Option Addr) (ic : Nat) (li : List Iq) (is : List Ins) (pA : Option Addr) (pc : Nat) (lp : List Po) (cs : List Pc) (fA : Option Addr) (fc : Nat) (fl : List Fw) (hA : Option Addr) (hc : Nat) (lh : List Hd) (hs : List Hc),
    e = .returned (.agg #[.slice aA asl.length ac, .slice iA li.length ic, .slice pA lp.length pc, .slice fA fl.length fc, .slice hA lh.length hc]) ∧ SDL w0 B w' aA ac asl iA ic li is pA pc lp cs fA fl hA hc lh hs ∧ SB asl li is lp cs fl lh hs ∧ (∀ x ∈ fl, x ∈ fl0) ∧ fl.length ≤ 20 ∧ lh.length ≤ 1000
theorem few27L_any (aA : Option Addr) (ac : Nat) (al : List Ax) (iA : Option Addr) (ic : Nat) (li : List Iq) (pA : Option Addr) (pc : Nat) (lp : List Po) (fA : Option Addr) (fc : Nat) (fl : List Fw) (hA : Option Addr) (hc : Nat) (lh : List Hd) (w0 w : World) (h0 : Below w0.heap.size w0 w)
    (s1 : Sl w aA (rc Ax.cells al)) (s2 : Sl w iA (rc Iq.cells li)) (g2 : ∀ g ∈ li, ∃ i : Ins, GI w0 g i) (s3 : Sl w pA (rc Po.cells lp)) (g3 : ∀ g ∈ lp, InK w0 g) (s4 : Sl w0 fA (rc Fw.cells fl)) (hfc : fl.length ≤ fc) (hfm : fc ≤ maxLen) (hf6 : ∀ x ∈ fl, In64 x.amt) (s5 : Sl w hA (rc Hd.cells lh)) (g5 : ∀ g ∈ lh, Hq.InH w0 g) :
    Calls Tryz.prog 5 #[.agg #[.slice aA al.length ac, .slice iA li.length ic, .slice pA lp.length pc, .slice fA fl.length fc, .slice hA lh.length hc]] w fun e w' => Few27L w0 w.heap.size fl w' e ∧ Below w.heap.size w w' := by
  have hB0 := since_alloc (since_alloc (Below.refl _ w) (.cells #[.slice aA al.length ac, .slice iA li.length ic, .slice pA lp.length pc, .slice fA fl.length fc, .slice hA lh.length hc] 28)) (.cells #[.slice none 0 0, .slice none 0 0, .slice none 0 0, .slice none 0 0, .slice none 0 0] 34)
  have K1 := (Bk.new w #[.slice aA al.length ac, .slice iA li.length ic, .slice pA lp.length pc, .slice fA fl.length fc, .slice hA lh.length hc] 28).alloc (.cells #[.slice none 0 0, .slice none 0 0, .slice none 0 0, .slice none 0 0, .slice none 0 0] 34)
  have X0 := ZB.new (w.alloc (.cells #[.slice aA al.length ac, .slice iA li.length ic, .slice pA lp.length pc, .slice fA fl.length fc, .slice hA lh.length hc] 28)) 34
  rw [World.size_alloc] at X0
  have HFA := fun V (h : Below w.heap.size w V) => rtableq_any_CoverM aA ac al V (s1.below h)
  have HFI := fun V (h : Below w.heap.size w V) => instskL_any iA ic li w0 V (since_step h0 h) (s2.below h) g2
  have HFP := fun V (h : Below w.heap.size w V) => few19kL_any pA pc lp w0 V (since_step h0 h) (s3.below h) g3
  have HFF := fun V (h : Below w.heap.size w V) => few17_any fA fc fl V hfc hfm ((s4.below h0).below h)
  have HFH := fun V (h : Below w.heap.size w V) => Hq.few26L_any hA hc lh w0 V (since_step h0 h) (s5.below h) g5
  have HFS := by
    have h2 := s4.take (20 * 3)
    rw [rc_take Fw.len] at h2
    exact h2
  have HH0 := Lib.hid h0
  have HSUB := Lib.hid (show ∀ x ∈ fl.take 20, x ∈ fl from fun x hx => List.mem_of_mem_take hx)
  have hl4 : (fl.take 20).length ≤ 20 := by simp; omega
  have hq4 : ∀ x ∈ fl.take 20, In64 x.amt := fun x hx => hf6 x (List.mem_of_mem_take hx)
  have HL4 := Lib.hid (And.intro hl4 hq4)
  generalize fl.take 20 = ft at *
  clear h0 s1 s2 g2 s3 g3 s4 hfc hfm hf6 s5 g5 hl4 hq4
  go_enter Tryz.func5, Tryz.ntmps5
  go_upto_region 1 with fail
  generalize hWW : (w.alloc (.cells #[.slice aA al.length ac, .slice iA li.length ic, .slice pA lp.length pc, .slice fA fl.length fc, .slice hA lh.length hc] 28)).alloc (.cells #[.slice none 0 0, .slice none 0 0, .slice none 0 0, .slice none 0 0, .slice none 0 0] 34) = W at *
  clear hWW
  have HQ : Hid (∀ V, Bk V w.heap.size #[.slice aA al.length ac, .slice iA li.length ic, .slice pA lp.length pc, .slice fA fl.length fc, .slice hA lh.length hc] ∧ Below w.heap.size w V → V.cell? ⟨w.heap.size, 0, none⟩ = some (.slice aA al.length ac) ∧ V.cell? ⟨w.heap.size, 1, none⟩ = some (.slice iA li.length ic) ∧ V.cell? ⟨w.heap.size, 2, none⟩ = some (.slice pA lp.length pc) ∧ V.cell? ⟨w.heap.size, 3, none⟩ = some (.slice fA fl.length fc) ∧ V.cell? ⟨w.heap.size, 4, none⟩ = some (.slice hA lh.length hc)) := Lib.hid fun V h => ⟨h.1.2 0, h.1.2 1, h.1.2 2, h.1.2 3, h.1.2 4⟩
  have HFA := Lib.hid HFA
  have HFI := Lib.hid HFI
  have HFP := Lib.hid HFP
  have HFF := Lib.hid HFF
  have HFH := Lib.hid HFH
  have HFS := Lib.hid HFS
  have X := X0.below (Below.refl _ _).drew
  clear X0
  go_wp2_with fail
  refine wp_region_held_drew (S := (fun V => Bk V w.heap.size #[.slice aA al.length ac, .slice iA li.length ic, .slice pA lp.length pc, .slice fA fl.length fc, .slice hA lh.length hc] ∧ Below w.heap.size w V)) (by kernel_rfl) (by exact ⟨K1.below (Below.refl _ _).drew, hB0.drew⟩) (fun hHeld => ?_)
  refine tkJ 0 3 rfl (by intro w; go_simp <;> with_reducible rfl) hHeld ?_; simp only [pqZ]
  refine tkI 1 4 rfl (by intro w hSw; obtain ⟨s0, s1, s2, s3, s4⟩ := HQ.out _ (hSw); go_simp <;> with_reducible rfl) hHeld ?_; simp only [pqZ]
  refine tkJ 3 6 rfl (by intro w; go_simp <;> with_reducible rfl) hHeld ?_; simp only [pqZ]
  refine tkI 4 7 rfl (by intro w hSw; obtain ⟨s0, s1, s2, s3, s4⟩ := HQ.out _ (hSw); go_simp <;> with_reducible rfl) hHeld ?_; simp only [pqZ]
  refine tkJ 6 9 rfl (by intro w; go_simp <;> with_reducible rfl) hHeld ?_; simp only [pqZ]
  refine tkI 7 10 rfl (by intro w hSw; obtain ⟨s0, s1, s2, s3, s4⟩ := HQ.out _ (hSw); go_simp <;> with_reducible rfl) hHeld ?_; simp only [pqZ]
  refine tkJ 9 12 rfl (by intro w; go_simp <;> with_reducible rfl) hHeld ?_; simp only [pqZ]
  refine tkI 10 13 rfl (by intro w hSw; obtain ⟨s0, s1, s2, s3, s4⟩ := HQ.out _ (hSw); go_simp <;> with_reducible rfl) hHeld ?_; simp only [pqZ]
  refine tkJ 12 15 rfl (by intro w; go_simp <;> with_reducible rfl) hHeld ?_; simp only [pqZ]
  refine tkI 13 16 rfl (by intro w hSw; obtain ⟨s0, s1, s2, s3, s4⟩ := HQ.out _ (hSw); go_simp <;> with_reducible rfl) hHeld ?_; simp only [pqZ]
  refine rdZ 2 5 rfl (by kernel_rfl) (fun K hK => ?_)
  go_simp
  refine (HFA.out _ hHeld.2).mono ?_
  rintro e y1 ⟨⟨RA, A1, c1, rfl, o1_, hok, hR8⟩, hk1⟩
  have d1 := own_base o1_ X.1.1
  have hKeep := And.intro (hHeld.1.below hk1) (since_step hHeld.2 hk1)
  have X := X.below hk1
  have HO1 := Lib.hid (And.intro hok hR8)
  clear hk1 hok hR8
  go_wp2_with fail
  refine hK.out _ _ (by (try dsimp only); exact hKeep) (fun hHeld => ?_); clear hK K hKeep; try simp only [pqZ]
  refine rdZ 5 8 rfl (by kernel_rfl) (fun K hK => ?_)
  go_simp
  refine (HFI.out _ hHeld.2).mono ?_
  rintro e y2 ⟨⟨RI, ii, A2, c2, rfl, o2_, t2, hR2, hg2⟩, hk1⟩
  have d2 := own_base o2_ X.1.1
  have hKeep := And.intro (hHeld.1.below hk1) (since_step hHeld.2 hk1)
  have X := X.below hk1
  have d1 := own_below d1 hk1
  have HO2 := Lib.hid (And.intro hR2 hg2)
  clear hk1 hR2 hg2
  go_wp2_with fail
  refine hK.out _ _ (by (try dsimp only); exact hKeep) (fun hHeld => ?_); clear hK K hKeep; try simp only [pqZ]
  refine rdZ 8 11 rfl (by kernel_rfl) (fun K hK => ?_)
  go_simp
  refine (HFP.out _ hHeld.2).mono ?_
  rintro e y3 ⟨⟨RP, pp, A3, c3, rfl, o3_, t3, hR3, hg3, _⟩, hk1⟩
  have d3 := own_base o3_ X.1.1
  have hKeep := And.intro (hHeld.1.below hk1) (since_step hHeld.2 hk1)
  have X := X.below hk1
  have d1 := own_below d1 hk1
  have d2 := own_below d2 hk1
  have HO3 := Lib.hid (And.intro hR3 hg3)
  clear hk1 hR3 hg3
  go_wp2_with fail
  refine hK.out _ _ (by (try dsimp only); exact hKeep) (fun hHeld => ?_); clear hK K hKeep; try simp only [pqZ]
  refine rdZ 11 14 rfl (by kernel_rfl) (fun K hK => ?_)
  go_simp
  refine (HFF.out _ hHeld.2).mono ?_
  rintro e y4 ⟨rfl, hk1⟩
  have hKeep := And.intro (hHeld.1.below hk1) (since_step hHeld.2 hk1)
  have X := X.below hk1
  have d1 := own_below d1 hk1
  have d2 := own_below d2 hk1
  have d3 := own_below d3 hk1
  clear hk1
  go_wp2_with fail
  refine hK.out _ _ (by (try dsimp only); exact hKeep) (fun hHeld => ?_); clear hK K hKeep; try simp only [pqZ]
  refine rdZ 14 17 rfl (by kernel_rfl) (fun K hK => ?_)
  go_simp
  refine (HFH.out _ hHeld.2).mono ?_
  rintro e y5 ⟨⟨RH, hh, A5, c5, rfl, o5_, t5, hR5, hg5⟩, hk1⟩
  have d5 := own_base o5_ X.1.1
  have hKeep := And.intro (hHeld.1.below hk1) (since_step hHeld.2 hk1)
  have X := X.below hk1
  have d1 := own_below d1 hk1
  have d2 := own_below d2 hk1
  have d3 := own_below d3 hk1
  have HO5 := Lib.hid (And.intro hR5 hg5)
  clear hk1 hR5 hg5
  go_wp2_with fail
  refine hK.out _ _ (by (try dsimp only); exact hKeep) (fun hHeld => ?_); clear hK K hKeep; try simp only [pqZ]
  refine tkJ 15 18 rfl (by intro w; go_simp <;> with_reducible rfl) hHeld ?_; simp only [pqZ]
  refine wpAnyH_ready (rs := [16]) (by kernel_rfl) (by simp) ?_
  refine AllReadyH.cons (o := ⟨none, _, _, _, _, _⟩) rfl (fun K hK => ?_) AllReadyH.nil
  have hHd := hHeld
  obtain ⟨s0, s1, s2, s3, s4⟩ := HQ.out _ (hHd)
  obtain ⟨z_, ⟨x0, x1, x2, x3, x4⟩, ⟨f0, f1, f2, f3, f4⟩⟩ := X.got
  have HE1 := Lib.hid (own_set5 d1 (.slice A1 RA.length c1) (.slice A2 RI.length c2) (.slice A3 RP.length c3) (.slice fA ft.length fc) (.slice A5 RH.length c5))
  have HE2 := Lib.hid (own_set5 d2 (.slice A1 RA.length c1) (.slice A2 RI.length c2) (.slice A3 RP.length c3) (.slice fA ft.length fc) (.slice A5 RH.length c5))
  have HE3 := Lib.hid (own_set5 d3 (.slice A1 RA.length c1) (.slice A2 RI.length c2) (.slice A3 RP.length c3) (.slice fA ft.length fc) (.slice A5 RH.length c5))
  have HE5 := Lib.hid (own_set5 d5 (.slice A1 RA.length c1) (.slice A2 RI.length c2) (.slice A3 RP.length c3) (.slice fA ft.length fc) (.slice A5 RH.length c5))
  have HT235 := Lib.hid (And.intro t2 (And.intro t3 t5))
  have hKeep := And.intro (((((hHeld.1.far27 (p := ⟨w.heap.size + 1, 0, none⟩) (by show w.heap.size + 1 ≠ _; omega) (.slice A1 RA.length c1)).far27 (p := ⟨w.heap.size + 1, 1, none⟩) (by show w.heap.size + 1 ≠ _; omega) (.slice A2 RI.length c2)).far27 (p := ⟨w.heap.size + 1, 2, none⟩) (by show w.heap.size + 1 ≠ _; omega) (.slice A3 RP.length c3)).far27 (p := ⟨w.heap.size + 1, 3, none⟩) (by show w.heap.size + 1 ≠ _; omega) (.slice fA ft.length fc)).far27 (p := ⟨w.heap.size + 1, 4, none⟩) (by show w.heap.size + 1 ≠ _; omega) (.slice A5 RH.length c5)) (Below.setCell (Below.setCell (Below.setCell (Below.setCell (Below.setCell hHeld.2 (p := ⟨w.heap.size + 1, 0, none⟩) (by show w.heap.size ≤ w.heap.size + 1; omega) (.slice A1 RA.length c1)) (p := ⟨w.heap.size + 1, 1, none⟩) (by show w.heap.size ≤ w.heap.size + 1; omega) (.slice A2 RI.length c2)) (p := ⟨w.heap.size + 1, 2, none⟩) (by show w.heap.size ≤ w.heap.size + 1; omega) (.slice A3 RP.length c3)) (p := ⟨w.heap.size + 1, 3, none⟩) (by show w.heap.size ≤ w.heap.size + 1; omega) (.slice fA ft.length fc)) (p := ⟨w.heap.size + 1, 4, none⟩) (by show w.heap.size ≤ w.heap.size + 1; omega) (.slice A5 RH.length c5))
  skip
  go_simp
  refine hK.out _ _ (by (try dsimp only); exact hKeep) (fun hHeld => ?_); clear hK K hKeep; try simp only [pqZ]
  refine wpAnyH_done (by kernel_rfl) ?_ _
  go_wp2_with fail
  refine bodyPost_ret (v := .agg #[.slice A1 RA.length c1, .slice A2 RI.length c2, .slice A3 RP.length c3, .slice fA ft.length fc, .slice A5 RH.length c5]) ?_ rfl ⟨?_, ?_⟩
  · simp [results, Tryz.results5, go_sem, x0, x1, x2, x3, x4, cell_set]
  · exact ⟨A1, c1, RA, A2, c2, RI, ii, A3, c3, RP, pp, fA, fc, ft, A5, c5, RH, hh, rfl, SDL.base (B := w.heap.size + 1 + 1) ⟨HE1.out, HE2.out, HT235.out.1, HE3.out, HT235.out.2.1, HFS.out, HE5.out, HT235.out.2.2, since_step HH0.out hHeld.2⟩ (by omega), ⟨⟨by have := HO1.out.2; omega, HO1.out.1, fun g hg => by have := (HO1.out.1 g hg).2.2.1; simp only at this; unfold In64; omega⟩, ⟨by have := HO2.out.1; omega, fun i hi => by have := (HO2.out.2 i hi).1; omega⟩, ⟨by have := HO3.out.1; omega, fun g hg => by have := HO3.out.2.1 g hg; omega, HO3.out.2.2⟩, ⟨by have := HL4.out.1; omega, HL4.out.2⟩, ⟨by have := HO5.out.1; omega, fun g hg => by have := HO5.out.2.1 g hg; omega, HO5.out.2.2⟩⟩, HSUB.out, HL4.out.1, (by have := HO5.out.1; omega)⟩
  · exact hHeld.2
end
section
def AX (w : World) (g : Nat) (id mem kind : Int) (A : Option Addr) (n c : Nat) : Prop := Bk w g #[.int .i64 id, .int .i64 mem, .int .i64 kind, .slice A n c] ∧ w.frozen? ⟨g, 0, none⟩ = false ∧ w.frozen? ⟨g, 1, none⟩ = false ∧ w.frozen? ⟨g, 2, none⟩ = false ∧ w.frozen? ⟨g, 3, none⟩ = false
theorem AX.new (w : World) (id mem kind : Int) (A : Option Addr) (n c : Nat) (t : TypeId) : AX (w.alloc (.cells #[.int .i64 id, .int .i64 mem, .int .i64 kind, .slice A n c] t)) w.heap.size id mem kind A n c := ⟨Bk.new _ _ _, by simp, by simp, by simp, by simp⟩
theorem AX.below {w w' : World} {g : Nat} {id mem kind : Int} {A : Option Addr} {n c : Nat} (h : AX w g id mem kind A n c) (hb : Below w.heap.size w w') : AX w' g id mem kind A n c :=
  ⟨h.1.below hb, (hb.frozen (p := ⟨g, 0, none⟩) h.1.1).trans h.2.1, (hb.frozen (p := ⟨g, 1, none⟩) h.1.1).trans h.2.2.1, (hb.frozen (p := ⟨g, 2, none⟩) h.1.1).trans h.2.2.2.1, (hb.frozen (p := ⟨g, 3, none⟩) h.1.1).trans h.2.2.2.2⟩
theorem AX.got {w : World} {g : Nat} {id mem kind : Int} {A : Option Addr} {n c : Nat} (h : AX w g id mem kind A n c) : g < w.heap.size ∧ (w.cell? ⟨g, 0, none⟩ = some (.int .i64 id) ∧ w.cell? ⟨g, 1, none⟩ = some (.int .i64 mem) ∧ w.cell? ⟨g, 2, none⟩ = some (.int .i64 kind) ∧ w.cell? ⟨g, 3, none⟩ = some (.slice A n c)) ∧ (w.frozen? ⟨g, 0, none⟩ = false ∧ w.frozen? ⟨g, 1, none⟩ = false ∧ w.frozen? ⟨g, 2, none⟩ = false ∧ w.frozen? ⟨g, 3, none⟩ = false) :=
  ⟨h.1.1, ⟨h.1.2 0, h.1.2 1, h.1.2 2, h.1.2 3⟩, h.2⟩
theorem AX.set2 {w : World} {g : Nat} {id mem kind : Int} {A : Option Addr} {n c : Nat} (h : AX w g id mem kind A n c) (a2 : Value) : Bk (w.setCell ⟨g, 2, none⟩ a2) g #[.int .i64 id, .int .i64 mem, a2, .slice A n c] := by
  obtain ⟨h0, ⟨h1, h2, h3, h4⟩, _⟩ := h.got
  have hk := h.1.2
  refine ⟨by simpa using h0, fun o => ?_⟩
  rcases o with _ | _ | _ | _ | o
  · simp [cell_set, h1, h2, h3, h4]
  · simp [cell_set, h1, h2, h3, h4]
  · simp [cell_set, h1, h2, h3, h4]
  · simp [cell_set, h1, h2, h3, h4]
  · have := hk (o + 1 + 1 + 1 + 1)
    simp [cell_set] at this ⊢
    exact this
theorem short25_any (id mem kind : Int) (A : Option Addr) (cap : Nat) (L : List Nt) (w : World) (hc : L.length ≤ cap) (hcm : cap ≤ maxLen) (hs : Sl w A (rc Nt.cells L)) :
    Calls Tryz.prog 6 #[.agg #[.int .i64 id, .int .i64 mem, .int .i64 kind, .slice A L.length cap]] w fun e w' => e = .returned (.agg #[.int .i64 id, .int .i64 mem, .int .i64 kind, .slice A (L.take 20).length cap]) ∧ Below w.heap.size w w' := by
  have hB : ∀ n, Below w.heap.size w ((w.alloc (.cells #[.int .i64 id, .int .i64 mem, .int .i64 kind, .slice A n cap] 31)).alloc (.cells #[.int .i64 id, .int .i64 mem, .int .i64 kind, .slice A n cap] 31)) := fun n => since_alloc (since_alloc (Below.refl _ w) _) _
  unfold maxLen at hcm
  by_cases h : 20 < L.length
  · have hl : (L.take 20).length = 20 := by simp; omega
    rw [hl]
    have h40 : 20 ≤ cap := by omega
    have hi : (20 : Int) < (L.length : Int) := by omega
    cases A with
    | none => obtain ⟨b, o, e, _⟩ := hs.nt (k := 0) (by omega); cases e
    | some ad =>
      go_enter Tryz.func6, Tryz.ntmps6
      go_wp2
      refine bodyPost_ret (v := .agg #[.int .i64 id, .int .i64 mem, .int .i64 kind, .slice (some ad) 20 cap]) ?_ rfl ⟨rfl, ?_⟩
      · simp [results, Tryz.results6, go_sem]
      · exact hB 20
  · have hl : (L.take 20).length = L.length := by simp; omega
    rw [hl]
    have hi : ¬ (20 : Int) < (L.length : Int) := by omega
    go_enter Tryz.func6, Tryz.ntmps6
    go_wp2
    refine bodyPost_ret (v := .agg #[.int .i64 id, .int .i64 mem, .int .i64 kind, .slice A L.length cap]) ?_ rfl ⟨rfl, ?_⟩
    · simp [results, Tryz.results6, go_sem]
    · exact hB L.length
end
end Go.Proofs.YtmjndpkfhdoljaaGreat
section
namespace Go.Proofs.YtmjndpkfhdoljaaGreat
open Go.ChangeShapes Go.WideShapes Go.ChangeAt Go.RowKit

theorem rd_fwK27 {w : World} {r : List Value} (h : Rd w (.cat (.cat (.int .i64) (.cat (.int .i64) .nil)) (.cat (.int .i64) .nil)) r) : ∃ g : Fw, r = g.cells ∧ Fw.in_ g := by
  obtain ⟨p, q, rfl, ⟨p1, q1, rfl, ⟨a, rfl, ha⟩, ⟨p2, q2, rfl, ⟨c, rfl, hc⟩, rfl⟩⟩, ⟨p3, q3, rfl, ⟨m, rfl, hm⟩, rfl⟩⟩ := h
  exact ⟨⟨a, c, m⟩, rfl, bd_i64 ha, bd_i64 hc, bd_i64 hm⟩
theorem rd_sideK {w : World} {a : Array Value} (h : Rd w (.cat (.sl (.cat (.int .i64) (.cat (.int .i64) (.cat (.int .i64) .nil)))) (.cat (.sl (.cat (.int .i64) (.cat (.int .i64) (.cat (.int .i64) (.cat (.int .i64) (.cat (.sl (.int .i64)) .nil)))))) (.cat (.sl (.cat (.cat (.int .i64) (.cat (.int .i64) .nil)) (.cat (.sl (.cat (.int .i64) (.cat (.int .i64) .nil))) .nil))) (.cat (.sl (.cat (.cat (.int .i64) (.cat (.int .i64) .nil)) (.cat (.int .i64) .nil))) (.cat (.sl (.cat (.cat (.int .i64) (.cat (.int .i64) .nil)) (.cat (.sl (.cat (.int .i64) (.cat (.int .i64) (.cat (.int .i64) .nil)))) .nil))) .nil))))) a.toList) :
    ∃ (aA : Option Addr) (ac : Nat) (al : List Ax) (iA : Option Addr) (ic : Nat) (li : List Iq) (pA : Option Addr) (pc : Nat) (lp : List Po) (fA : Option Addr) (fc : Nat) (fl : List Fw) (hA : Option Addr) (hc : Nat) (lh : List Hd),
      a = #[.slice aA al.length ac, .slice iA li.length ic, .slice pA lp.length pc, .slice fA fl.length fc, .slice hA lh.length hc] ∧ Sl w aA (rc Ax.cells al) ∧ Sl w iA (rc Iq.cells li) ∧ (∀ g ∈ li, ∃ i : Ins, GI w g i) ∧ Sl w pA (rc Po.cells lp) ∧ (∀ g ∈ lp, InK w g) ∧ Sl w fA (rc Fw.cells fl) ∧ fl.length ≤ fc ∧ fc ≤ maxLen ∧ (∀ x ∈ fl, Fw.in_ x) ∧ Sl w hA (rc Hd.cells lh) ∧ ∀ g ∈ lh, Hq.InH w g := by
  obtain ⟨r1, q1, e, h1, ⟨r2, q2, rfl, h2, ⟨r3, q3, rfl, h3, ⟨r4, q4, rfl, h4, ⟨r5, q5, rfl, h5, rfl⟩⟩⟩⟩⟩ := h
  obtain ⟨A1, n1, c1, rows1, rfl, _⟩ := _root_.id h1
  obtain ⟨A2, n2, c2, rows2, rfl, _⟩ := _root_.id h2
  obtain ⟨A3, n3, c3, rows3, rfl, _⟩ := _root_.id h3
  obtain ⟨A4, n4, c4, rows4, rfl, _⟩ := _root_.id h4
  obtain ⟨A5, n5, c5, rows5, rfl, _⟩ := _root_.id h5
  obtain ⟨l1, rfl, _, _, s1, _⟩ := rd_rowsP (f := Ax.cells) (fun r => rd_axrow) h1
  obtain ⟨l2, rfl, _, _, s2, g2⟩ := rd_rowsP (f := Iq.cells) (fun r => rd_insrow) h2
  obtain ⟨l3, rfl, _, _, s3, g3⟩ := rd_rowsP (f := Po.cells) (fun r => rd_posk) h3
  obtain ⟨l4, rfl, k4, m4, s4, g4⟩ := rd_rowsP (f := Fw.cells) (fun r => rd_fwK27) h4
  obtain ⟨l5, rfl, _, _, s5, g5⟩ := rd_rowsP (f := Hd.cells) (fun r => Hq.rd_hold) h5
  refine ⟨A1, c1, l1, A2, c2, l2, A3, c3, l3, A4, c4, l4, A5, c5, l5, ?_, s1, s2, g2, s3, g3, s4, k4, m4, g4, s5, g5⟩
  cases a
  simpa using e
theorem rd_acctK {w : World} {a : Array Value} (h : Rd w (.cat (.int .i64) (.cat (.int .i64) (.cat (.int .i64) (.cat (.sl (.int .i64)) .nil)))) a.toList) :
    ∃ (id mem kind : Int) (A : Option Addr) (cap : Nat) (L : List Nt), a = #[.int .i64 id, .int .i64 mem, .int .i64 kind, .slice A L.length cap] ∧ L.length ≤ cap ∧ cap ≤ maxLen ∧ Sl w A (rc Nt.cells L) ∧ In64 id ∧ ∀ y ∈ L, In64 y.n := by
  obtain ⟨p, q, e, ⟨id, rfl, hid⟩, ⟨p2, q2, rfl, ⟨mem, rfl, _⟩, ⟨p3, q3, rfl, ⟨kind, rfl, _⟩, ⟨p4, q4, rfl, h4, rfl⟩⟩⟩⟩ := h
  obtain ⟨A, n, c, rows, rfl, h1, h2, h3, h5, h6⟩ := _root_.id h4
  obtain ⟨l, rfl, _, _, hs, hwf⟩ := rd_ints (w := w) (k := .i64) (A := A) (n := n) (c := c) h4
  refine ⟨id, mem, kind, A, c, l.map Nt.mk, ?_, by simpa using h1, h2, ?_, bd_i64 hid, fun y hy => ?_⟩
  · cases a
    simpa using e
  · have e2 : ∀ l : List Int, rc Nt.cells (l.map Nt.mk) = ints .i64 l := by
      intro l
      induction l with
      | nil => rfl
      | cons x l ih => rw [List.map_cons, rc_cons, ih]; rfl
    rw [e2]; exact hs
  · obtain ⟨x, hx, rfl⟩ := List.mem_map.1 hy
    exact bd_i64 (hwf x hx)
theorem rd_lt27 {w : World} {a : Array Value} (h : Rd w (.cat (.int .i64) (.cat (.int .i64) (.cat (.int .i64) .nil))) a.toList) : ∃ x y z : Int, a = #[.int .i64 x, .int .i64 y, .int .i64 z] ∧ In64 z := by
  obtain ⟨p, q, e, ⟨x, rfl, _⟩, ⟨p2, q2, rfl, ⟨y, rfl, _⟩, ⟨p3, q3, rfl, ⟨z, rfl, wz⟩, rfl⟩⟩⟩ := h
  refine ⟨x, y, z, ?_, bd_i64 wz⟩
  cases a
  simpa using e
theorem bx27 {w : World} {h : Nat} {cs : Array Value} {T : TypeId} (hh : w.heap[h]? = some (.cells cs T (0, 0))) (i : Nat) : w.cell? ⟨h, i, none⟩ = cs[i]? ∧ w.frozen? ⟨h, i, none⟩ = false ∧ h < w.heap.size :=
  ⟨by simp [World.cell?, hh], by simp [World.frozen?, hh], (Array.getElem?_eq_some_iff.1 hh).1⟩
theorem setb27 {w : World} {b i : Nat} {cur : Array Value} {t : TypeId} (v : Value) (h : w.heap[b]? = some (.cells cur t (0, 0))) : (w.setCell ⟨b, i, none⟩ v).heap[b]? = some (.cells (cur.setIfInBounds i v) t (0, 0)) := by
  rw [setCell_eq_setRow w b i _ t (0, 0) _ h]
  exact setRow_heap w b _ _ t (0, 0) h
theorem setf27 {w : World} {p : Addr} (v : Value) {k : Nat} (h : k ≠ p.block) : (w.setCell p v).heap[k]? = w.heap[k]? := Below.heap_setCell _ _ _ _ h
section
variable {w0 w w' : World} {B : Nat} {aA iA pA fA hA : Option Addr} {ac ic pc hc : Nat} {asl : List Ax} {li : List Iq} {is : List Ins} {lp : List Po} {cs : List Pc} {fl : List Fw} {lh : List Hd} {hs : List Hc}
theorem SDL.sett (h : SDL w0 B w aA ac asl iA ic li is pA pc lp cs fA fl hA hc lh hs) {p : Addr} {cells : Array Value} {T : TypeId} {z : Nat × Nat} (hp : w.heap[p.block]? = some (.cells cells T z)) (t1 : 63 ≠ T) (t2 : 92 ≠ T) (t3 : 95 ≠ T) (t4 : 98 ≠ T) (h1 : w0.heap.size ≤ p.block) (u : Value) : SDL w0 B (w.setCell p u) aA ac asl iA ic li is pA pc lp cs fA fl hA hc lh hs :=
  ⟨own_far1 h.oa (own_type h.oa hp t1) u, own_far1 h.oi (own_type h.oi hp t2) u, h.ti, own_far1 h.op (own_type h.op hp t3) u, h.tp, h.sf, own_far1 h.oh (own_type h.oh hp t4) u, h.th, Below.setCell h.bw h1 u⟩
end
theorem exG_ne27 {b1 b2 b3 : Bool} {O : Int × Int} {P : List Un} {V : Un → Int × Int} (h : (exG b1 b2 b3 O P V).2 ≠ 0) : (exG b1 b2 b3 O P V).1 = 0 := by
  cases b1 with
  | false => rw [exG_1]
  | true =>
    cases b2 with
    | false => rw [exG_2]
    | true =>
      cases b3 with
      | false => rw [exG_3]
      | true =>
        obtain ⟨m, e⟩ := O
        by_cases he : e = 0
        · subst he
          cases hf : P.find? (fun p => (V p).2 != 0) with
          | some p =>
            unfold exG
            simp only [Bool.true_eq_false, if_false, ne_eq, not_true_eq_false]
            rw [hf]
          | none =>
            have hf2 := hf
            rw [List.find?_eq_none] at hf
            have hz : ∀ p ∈ P, (V p).2 = 0 := fun p hp => by have := hf p hp; simpa using this
            have e9 := exG_ok (m := m) (P := P) (V := V) (fun j hj => hz _ (List.getElem_mem hj))
            rw [e9] at h ⊢
            unfold fE at h
            unfold fV
            split at h
            · exact absurd rfl h
            · rename_i hn; rw [if_neg hn]
        · rw [exG_must he]
theorem exR_ne27 {asl : List Ax} {is : List Ins} {cs : List Pc} {fl : List Fw} {hs : List Hc} {id kind : Int} {L : List Nt} {u : Un} (h : (exR asl is cs fl hs id kind L u).2 ≠ 0) : (exR asl is cs fl hs id kind L u).1 = 0 := exG_ne27 h
theorem unL_in27 {id kind : Int} {L : List Nt} (h1 : In64 id) (h2 : ∀ y ∈ L, In64 y.n) : ∀ u ∈ unL id kind L, In64 u.ac ∧ In64 u.cl := fun u hu => by
  unfold unL at hu
  split at hu
  · rw [List.mem_singleton.1 hu]; exact ⟨h1, by show In64 0; decide⟩
  · obtain ⟨y, hy, rfl⟩ := List.mem_map.1 hu
    exact ⟨h1, h2 y hy⟩
theorem pay_bd27 {l O Q : List Fw} (h : payR l O = (0, Q)) : Q.length ≤ l.length + O.length ∧ ∀ x ∈ Q, In64 x.amt := by
  unfold payR at h
  split at h
  · injection h with h1; cases h1
  · split at h
    · injection h with h1; cases h1
    · rename_i hf
      injection h with _ h
      subst h
      have hf : fitsU (l ++ O) = true := by simpa using hf
      refine ⟨?_, fun x hx => ?_⟩
      · unfold purseOf
        refine Nat.le_trans (List.length_filter_le _ _) ?_
        rw [List.length_map]
        refine Nat.le_trans (unitsU_len _) ?_
        rw [List.length_append]; exact Nat.le_refl _
      · obtain ⟨⟨y, hy, e1, e2⟩, e3, _⟩ := (mem_purseOf _ x).1 hx
        unfold fitsU at hf
        rw [List.all_eq_true] at hf
        have h9 := hf ⟨x.ac, x.cl⟩ ((mem_unitsU _ _).2 ⟨y, hy, e1, e2⟩)
        rw [e3]
        exact (fitI_iff _).1 h9
end Go.Proofs.YtmjndpkfhdoljaaGreat
namespace Go.Proofs.YtmjndpkfhdoljaaGreat.Hq
open Go.ChangeShapes Go.WideShapes Go.ChangeAt Go.RowKit
theorem put_bd27 {cs R : List Hc} {a c : Int} {x : Lt} (h : chgHR (fun m => putLR m x) cs a c = (0, R)) (h6 : ∀ g ∈ cs, ∀ y ∈ g.L, In64 y.qty) (hl : ∀ g ∈ cs, g.L.length ≤ 100000) : R.length ≤ cs.length + 1 ∧ (∀ g ∈ R, g.L.length ≤ 100000) ∧ ∀ g ∈ R, ∀ y ∈ g.L, In64 y.qty := by
  unfold chgHR at h
  split at h
  · injection h with h1; cases h1
  · rename_i hi
    have hi : isH cs = true := by simpa using hi
    simp only at h
    split at h
    · rename_i hz; injection h with h1; exact absurd h1 hz
    · rename_i hz
      injection h with _ h
      subst h
      have hz : putLR (lotsH cs a c) x = (0, (putLR (lotsH cs a c) x).2) := Prod.ext (Classical.not_not.1 hz) rfl
      have hp := put_is hz
      refine ⟨with_len a c _, fun g hg => ?_, with_in6 (isH_sorted hi) h6 (hp.2.2.2 (lots_in6 h6 a c)) a c⟩
      rcases (mem_with (isH_sorted hi) a c _ g).1 hg with ⟨_, rfl⟩ | ⟨h1, _⟩
      · have := ((isLs_iff _).1 hp.1).2.1
        show (putLR (lotsH cs a c) x).2.length ≤ 100000
        omega
      · exact hl g h1
end Go.Proofs.YtmjndpkfhdoljaaGreat.Hq
end
