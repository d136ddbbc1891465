import Derived.Test.YtmjndpkfhdoljaaGreatCm27
import Derived.Test.YtmjndpkfhdoljaaGreatCm38
set_option maxHeartbeats 16000000
set_option maxRecDepth 100000
set_option linter.unusedVariables false
set_option linter.unusedSimpArgs false
section
namespace Go.Proofs.YtmjndpkfhdoljaaGreat.Hq
open Go.ChangeShapes Go.WideShapes Go.ChangeAt Go.RowKit

theorem rhisQ_any (A : Option Addr) (cap : Nat) (l : List Hd) (cs : List Hc) (w : World) (hl : l.length ≤ 900000) (hcl : ∀ g ∈ cs, g.L.length ≤ 900000) (hs : Sl w A (rc Hd.cells l)) (ht : HdTab w l cs) :
  Calls Tryz.prog 29 #[.slice A l.length cap] w fun e w' => e = .returned (.bool (isH cs)) ∧ Below w.heap.size w w' := by
 have HLC := Lib.hid ht.1
 go_enter Tryz.func29, Tryz.ntmps29
 go_wp2_with fail
 go_loopw [3] (fun i wr => ∃ k : Nat, k ≤ l.length ∧ i = .int .i64 k ∧ ((∀ j, (hj : j < cs.length) → j < k → okH cs[j] = true) ∧ ∀ j, (hj : j + 1 < cs.length) → j + 1 < k → ahH (cs[j]'(Nat.lt_of_succ_lt hj)) cs[j + 1] = true) ∧ Below w.heap.size w wr) (fun i _ => l.length - (intOf i).toNat)
 case atStart => exact ⟨0, by omega, rfl, ⟨fun j hj h => absurd h (by omega), fun j hj h => absurd h (by omega)⟩, Below.refl _ _⟩
 case round =>
  obtain ⟨k, hk, rfl, ⟨hno, hup⟩, hB⟩ := hrel
  by_cases hlt : k < l.length
  ·have hlc : k < cs.length := HLC.out ▸ hlt
   obtain ⟨b, o, hA, hbw, hg⟩ := (hs.below hB).hd hlt
   have hlk : (k : Int) < (l.length : Int) := by omega
   have hgk : (0 : Int) ≤ (k : Int) := by omega
   have hks : IntKind.i64.wrap ((k : Int) + 1) = (k : Int) + 1 := IntWalk.i64_in _ (by omega)
   have hI := (ht.below hB).2 k hlt hlc
   have hm := hcl _ (List.getElem_mem hlc)
   by_cases hq : cs[k].L.length = 0
   ·have HR := Lib.hid (isH_bad hlc (okH_zero hq))
    have HG : Hid (∀ V, Below wr.heap.size wr V → l[k].at V b (o + k * 3)) := Lib.hid fun V hV => Hd.at_keep hg fun i => hV.cell (p := ⟨b, i, none⟩) hbw
    have hqb : (((cs[k].L.length : Nat) : Int) == 0) = true := by simpa using hq
    clear hno hup hg hq
    generalize l[k] = v at *
    generalize cs[k] = d at *
    obtain ⟨va, vc, vt, vL, vC⟩ := v
    obtain ⟨da, dc, dL⟩ := d
    obtain ⟨i0, i1, i2, i3⟩ := hI
    simp only at i0 i1 i2 i3 hm hqb
    subst i0; subst i1; subst i2
    unfold Hd.at at HG
    simp only at HG
    clear i3
    subst hA
    go_wp2_with fail
    refine wp_region_held_drew (S := (fun V => Below wr.heap.size wr V)) (by kernel_rfl) (by exact (Below.refl _ _).drew) (fun hHeld => ?_)
    refine tkI 0 10 rfl (by intro w hSw; obtain ⟨g0, g1, g2⟩ := HG.out _ hSw; go_simp <;> with_reducible rfl) hHeld ?_; simp only [pqZ]
    refine tkI 1 11 rfl (by intro w hSw; obtain ⟨g0, g1, g2⟩ := HG.out _ hSw; go_simp <;> with_reducible rfl) hHeld ?_; simp only [pqZ]
    refine tkI 2 12 rfl (by intro w hSw; obtain ⟨g0, g1, g2⟩ := HG.out _ hSw; go_simp <;> with_reducible rfl) hHeld ?_; simp only [pqZ]
    refine tkI 3 13 rfl (by intro w hSw; obtain ⟨g0, g1, g2⟩ := HG.out _ hSw; go_simp <;> with_reducible rfl) hHeld ?_; simp only [pqZ]
    refine tkI 4 14 rfl (by intro w hSw; obtain ⟨g0, g1, g2⟩ := HG.out _ hSw; go_simp <;> with_reducible rfl) hHeld ?_; simp only [pqZ]
    refine tkI 5 15 rfl (by intro w hSw; obtain ⟨g0, g1, g2⟩ := HG.out _ hSw; go_simp <;> with_reducible rfl) hHeld ?_; simp only [pqZ]
    refine tkI 6 16 rfl (by intro w hSw; obtain ⟨g0, g1, g2⟩ := HG.out _ hSw; go_simp <;> with_reducible rfl) hHeld ?_; simp only [pqZ]
    refine tkI 7 17 rfl (by intro w hSw; obtain ⟨g0, g1, g2⟩ := HG.out _ hSw; go_simp <;> with_reducible rfl) hHeld ?_; simp only [pqZ]
    refine tkO 8 18 rfl (by kernel_rfl) (by rfl) hHeld ?_; simp only [pqZ]
    refine tkO 9 19 rfl (by kernel_rfl) (by rfl) hHeld ?_; simp only [pqZ]
    refine tkO 10 20 rfl (by kernel_rfl) (by rfl) hHeld ?_; simp only [pqZ]
    refine tkO 11 21 rfl (by kernel_rfl) (by rfl) hHeld ?_; simp only [pqZ]
    refine tkO 12 22 rfl (by kernel_rfl) (by rfl) hHeld ?_; simp only [pqZ]
    refine tkO 13 23 rfl (by kernel_rfl) (by rfl) hHeld ?_; simp only [pqZ]
    refine tkO 14 24 rfl (by kernel_rfl) (by rfl) hHeld ?_; simp only [pqZ]
    refine tkI 15 25 rfl (by intro w hSw; obtain ⟨g0, g1, g2⟩ := HG.out _ hSw; go_simp <;> with_reducible rfl) hHeld ?_; simp only [pqZ]
    refine tkI 16 26 rfl (by intro w hSw; obtain ⟨g0, g1, g2⟩ := HG.out _ hSw; go_simp <;> with_reducible rfl) hHeld ?_; simp only [pqZ]
    refine tkO 17 27 rfl (by kernel_rfl) (by rfl) hHeld ?_; simp only [pqZ]
    refine tkO 18 28 rfl (by kernel_rfl) (by rfl) hHeld ?_; simp only [pqZ]
    refine tkO 19 29 rfl (by kernel_rfl) (by rfl) hHeld ?_; simp only [pqZ]
    refine tkO 20 30 rfl (by kernel_rfl) (by rfl) hHeld ?_; simp only [pqZ]
    refine tkO 21 31 rfl (by kernel_rfl) (by rfl) hHeld ?_; simp only [pqZ]
    refine tkO 22 32 rfl (by kernel_rfl) (by rfl) hHeld ?_; simp only [pqZ]
    refine tkO 23 33 rfl (by kernel_rfl) (by rfl) hHeld ?_; simp only [pqZ]
    refine tkO 24 34 rfl (by kernel_rfl) (by rfl) hHeld ?_; simp only [pqZ]
    refine tkO 25 35 rfl (by kernel_rfl) (by rfl) hHeld ?_; simp only [pqZ]
    refine tkO 26 36 rfl (by kernel_rfl) (by rfl) hHeld ?_; simp only [pqZ]
    refine tkO 27 37 rfl (by kernel_rfl) (by rfl) hHeld ?_; simp only [pqZ]
    refine tkO 28 38 rfl (by kernel_rfl) (by rfl) hHeld ?_; simp only [pqZ]
    refine tkO 29 39 rfl (by kernel_rfl) (by rfl) hHeld ?_; simp only [pqZ]
    refine tkO 30 40 rfl (by kernel_rfl) (by rfl) hHeld ?_; simp only [pqZ]
    refine tkO 31 41 rfl (by kernel_rfl) (by rfl) hHeld ?_; simp only [pqZ]
    refine tkO 32 42 rfl (by kernel_rfl) (by rfl) hHeld ?_; simp only [pqZ]
    refine tkO 33 43 rfl (by kernel_rfl) (by rfl) hHeld ?_; simp only [pqZ]
    refine tkI 34 44 rfl (by intro w hSw; obtain ⟨g0, g1, g2⟩ := HG.out _ hSw; go_simp <;> with_reducible rfl) hHeld ?_; simp only [pqZ]
    refine wpAnyH_done (by kernel_rfl) ?_ _
    have hB2 := hB.trans (hHeld.mono hB.size)
    go_wp2_with fail
    go_ret
    exact ⟨retB HR.out.symm, hB2⟩
   have hqb : (((cs[k].L.length : Nat) : Int) == 0) = false := by simpa using hq
   cases hi : isLs cs[k].L with
   | false =>
    have HR := Lib.hid (isH_bad hlc ((okH_some hq).trans hi))
    have HG : Hid (∀ V, Below wr.heap.size wr V → l[k].at V b (o + k * 3)) := Lib.hid fun V hV => Hd.at_keep hg fun i => hV.cell (p := ⟨b, i, none⟩) hbw
    have HI := Lib.hid hi
    clear hno hup hg hq hi
    generalize l[k] = v at *
    generalize cs[k] = d at *
    obtain ⟨va, vc, vt, vL, vC⟩ := v
    obtain ⟨da, dc, dL⟩ := d
    obtain ⟨i0, i1, i2, i3⟩ := hI
    simp only at i0 i1 i2 i3 hm hqb HI
    subst i0; subst i1; subst i2
    unfold Hd.at at HG
    simp only at HG
    have HS : Hid (∀ V, Below wr.heap.size wr V → Sl V vt (rc Lt.cells dL)) := Lib.hid fun V hV => i3.below hV
    have HLL : Hid (dL.length ≤ 1000000) := Lib.hid (by omega)
    clear i3
    subst hA
    go_wp2_with fail
    refine wp_region_held_drew (S := (fun V => Below wr.heap.size wr V)) (by kernel_rfl) (by exact (Below.refl _ _).drew) (fun hHeld => ?_)
    refine tkI 0 10 rfl (by intro w hSw; obtain ⟨g0, g1, g2⟩ := HG.out _ hSw; go_simp <;> with_reducible rfl) hHeld ?_; simp only [pqZ]
    refine tkI 1 11 rfl (by intro w hSw; obtain ⟨g0, g1, g2⟩ := HG.out _ hSw; go_simp <;> with_reducible rfl) hHeld ?_; simp only [pqZ]
    refine tkI 2 12 rfl (by intro w hSw; obtain ⟨g0, g1, g2⟩ := HG.out _ hSw; go_simp <;> with_reducible rfl) hHeld ?_; simp only [pqZ]
    refine tkI 3 13 rfl (by intro w hSw; obtain ⟨g0, g1, g2⟩ := HG.out _ hSw; go_simp <;> with_reducible rfl) hHeld ?_; simp only [pqZ]
    refine tkI 4 14 rfl (by intro w hSw; obtain ⟨g0, g1, g2⟩ := HG.out _ hSw; go_simp <;> with_reducible rfl) hHeld ?_; simp only [pqZ]
    refine tkI 5 15 rfl (by intro w hSw; obtain ⟨g0, g1, g2⟩ := HG.out _ hSw; go_simp <;> with_reducible rfl) hHeld ?_; simp only [pqZ]
    refine tkI 6 16 rfl (by intro w hSw; obtain ⟨g0, g1, g2⟩ := HG.out _ hSw; go_simp <;> with_reducible rfl) hHeld ?_; simp only [pqZ]
    refine tkI 7 17 rfl (by intro w hSw; obtain ⟨g0, g1, g2⟩ := HG.out _ hSw; go_simp <;> with_reducible rfl) hHeld ?_; simp only [pqZ]
    refine tkI 8 18 rfl (by intro w hSw; obtain ⟨g0, g1, g2⟩ := HG.out _ hSw; go_simp <;> with_reducible rfl) hHeld ?_; simp only [pqZ]
    refine tkI 9 19 rfl (by intro w hSw; obtain ⟨g0, g1, g2⟩ := HG.out _ hSw; go_simp <;> with_reducible rfl) hHeld ?_; simp only [pqZ]
    refine tkI 10 20 rfl (by intro w hSw; obtain ⟨g0, g1, g2⟩ := HG.out _ hSw; go_simp <;> with_reducible rfl) hHeld ?_; simp only [pqZ]
    refine tkI 11 21 rfl (by intro w hSw; obtain ⟨g0, g1, g2⟩ := HG.out _ hSw; go_simp <;> with_reducible rfl) hHeld ?_; simp only [pqZ]
    refine tkI 12 22 rfl (by intro w hSw; obtain ⟨g0, g1, g2⟩ := HG.out _ hSw; go_simp <;> with_reducible rfl) hHeld ?_; simp only [pqZ]
    refine rdZ 13 23 rfl (by kernel_rfl) (fun K hK => ?_)
    go_simp
    refine (ris_any_Lots3 vt vC dL _ HLL.out (HS.out _ hHeld)).mono ?_
    rintro e u1 ⟨rfl, hk1⟩
    have hKeep := since_step hHeld hk1
    rw [HI.out]
    go_wp2_with fail
    refine hK.out _ _ (by (try dsimp only); exact hKeep) (fun hHeld => ?_); clear hK K hKeep; try simp only [pqZ]
    refine tkI 14 24 rfl (by intro w hSw; obtain ⟨g0, g1, g2⟩ := HG.out _ hSw; go_simp <;> with_reducible rfl) hHeld ?_; simp only [pqZ]
    refine tkI 15 25 rfl (by intro w hSw; obtain ⟨g0, g1, g2⟩ := HG.out _ hSw; go_simp <;> with_reducible rfl) hHeld ?_; simp only [pqZ]
    refine tkI 16 26 rfl (by intro w hSw; obtain ⟨g0, g1, g2⟩ := HG.out _ hSw; go_simp <;> with_reducible rfl) hHeld ?_; simp only [pqZ]
    refine tkO 17 27 rfl (by kernel_rfl) (by rfl) hHeld ?_; simp only [pqZ]
    refine tkO 18 28 rfl (by kernel_rfl) (by rfl) hHeld ?_; simp only [pqZ]
    refine tkO 19 29 rfl (by kernel_rfl) (by rfl) hHeld ?_; simp only [pqZ]
    refine tkO 20 30 rfl (by kernel_rfl) (by rfl) hHeld ?_; simp only [pqZ]
    refine tkO 21 31 rfl (by kernel_rfl) (by rfl) hHeld ?_; simp only [pqZ]
    refine tkO 22 32 rfl (by kernel_rfl) (by rfl) hHeld ?_; simp only [pqZ]
    refine tkO 23 33 rfl (by kernel_rfl) (by rfl) hHeld ?_; simp only [pqZ]
    refine tkO 24 34 rfl (by kernel_rfl) (by rfl) hHeld ?_; simp only [pqZ]
    refine tkO 25 35 rfl (by kernel_rfl) (by rfl) hHeld ?_; simp only [pqZ]
    refine tkO 26 36 rfl (by kernel_rfl) (by rfl) hHeld ?_; simp only [pqZ]
    refine tkO 27 37 rfl (by kernel_rfl) (by rfl) hHeld ?_; simp only [pqZ]
    refine tkO 28 38 rfl (by kernel_rfl) (by rfl) hHeld ?_; simp only [pqZ]
    refine tkO 29 39 rfl (by kernel_rfl) (by rfl) hHeld ?_; simp only [pqZ]
    refine tkO 30 40 rfl (by kernel_rfl) (by rfl) hHeld ?_; simp only [pqZ]
    refine tkO 31 41 rfl (by kernel_rfl) (by rfl) hHeld ?_; simp only [pqZ]
    refine tkO 32 42 rfl (by kernel_rfl) (by rfl) hHeld ?_; simp only [pqZ]
    refine tkO 33 43 rfl (by kernel_rfl) (by rfl) hHeld ?_; simp only [pqZ]
    refine tkI 34 44 rfl (by intro w hSw; obtain ⟨g0, g1, g2⟩ := HG.out _ hSw; go_simp <;> with_reducible rfl) hHeld ?_; simp only [pqZ]
    refine wpAnyH_done (by kernel_rfl) ?_ _
    have hB2 := hB.trans (hHeld.mono hB.size)
    go_wp2_with fail
    go_ret
    exact ⟨retB HR.out.symm, hB2⟩
   | true =>
    have hok := (okH_some hq).trans hi
    rcases Nat.eq_zero_or_pos k with h0 | h0
    ·have HN : Hid ((∀ j, (hj : j < cs.length) → j < k + 1 → okH cs[j] = true) ∧ ∀ j, (hj : j + 1 < cs.length) → j + 1 < k + 1 → ahH (cs[j]'(Nat.lt_of_succ_lt hj)) cs[j + 1] = true) := Lib.hid ⟨fun j hj hjk => by
      obtain rfl : j = k := by omega
      exact hok, fun j hj hjk => absurd hjk (by omega)⟩
     have HG : Hid (∀ V, Below wr.heap.size wr V → l[k].at V b (o + k * 3)) := Lib.hid fun V hV => Hd.at_keep hg fun i => hV.cell (p := ⟨b, i, none⟩) hbw
     have hz1 : ¬ (0 : Int) < (k : Int) := by omega
     have hz2 : decide ((0 : Int) < (k : Int)) = false := decide_eq_false hz1
     have hz3 : ¬ 0 < k := by omega
     have hz4 : decide (0 < k) = false := decide_eq_false hz3
     have HI := Lib.hid hi
     clear hno hup hg hq h0 hi hok
     generalize l[k] = v at *
     generalize cs[k] = d at *
     obtain ⟨va, vc, vt, vL, vC⟩ := v
     obtain ⟨da, dc, dL⟩ := d
     obtain ⟨i0, i1, i2, i3⟩ := hI
     simp only at i0 i1 i2 i3 hm hqb HI
     subst i0; subst i1; subst i2
     unfold Hd.at at HG
     simp only at HG
     have HS : Hid (∀ V, Below wr.heap.size wr V → Sl V vt (rc Lt.cells dL)) := Lib.hid fun V hV => i3.below hV
     have HLL : Hid (dL.length ≤ 1000000) := Lib.hid (by omega)
     clear i3
     subst hA
     go_wp2_with fail
     refine wp_region_held_drew (S := (fun V => Below wr.heap.size wr V)) (by kernel_rfl) (by exact (Below.refl _ _).drew) (fun hHeld => ?_)
     refine tkI 0 10 rfl (by intro w hSw; obtain ⟨g0, g1, g2⟩ := HG.out _ hSw; go_simp <;> with_reducible rfl) hHeld ?_; simp only [pqZ]
     refine tkI 1 11 rfl (by intro w hSw; obtain ⟨g0, g1, g2⟩ := HG.out _ hSw; go_simp <;> with_reducible rfl) hHeld ?_; simp only [pqZ]
     refine tkI 2 12 rfl (by intro w hSw; obtain ⟨g0, g1, g2⟩ := HG.out _ hSw; go_simp <;> with_reducible rfl) hHeld ?_; simp only [pqZ]
     refine tkI 3 13 rfl (by intro w hSw; obtain ⟨g0, g1, g2⟩ := HG.out _ hSw; go_simp <;> with_reducible rfl) hHeld ?_; simp only [pqZ]
     refine tkI 4 14 rfl (by intro w hSw; obtain ⟨g0, g1, g2⟩ := HG.out _ hSw; go_simp <;> with_reducible rfl) hHeld ?_; simp only [pqZ]
     refine tkI 5 15 rfl (by intro w hSw; obtain ⟨g0, g1, g2⟩ := HG.out _ hSw; go_simp <;> with_reducible rfl) hHeld ?_; simp only [pqZ]
     refine tkI 6 16 rfl (by intro w hSw; obtain ⟨g0, g1, g2⟩ := HG.out _ hSw; go_simp <;> with_reducible rfl) hHeld ?_; simp only [pqZ]
     refine tkI 7 17 rfl (by intro w hSw; obtain ⟨g0, g1, g2⟩ := HG.out _ hSw; go_simp <;> with_reducible rfl) hHeld ?_; simp only [pqZ]
     refine tkI 8 18 rfl (by intro w hSw; obtain ⟨g0, g1, g2⟩ := HG.out _ hSw; go_simp <;> with_reducible rfl) hHeld ?_; simp only [pqZ]
     refine tkI 9 19 rfl (by intro w hSw; obtain ⟨g0, g1, g2⟩ := HG.out _ hSw; go_simp <;> with_reducible rfl) hHeld ?_; simp only [pqZ]
     refine tkI 10 20 rfl (by intro w hSw; obtain ⟨g0, g1, g2⟩ := HG.out _ hSw; go_simp <;> with_reducible rfl) hHeld ?_; simp only [pqZ]
     refine tkI 11 21 rfl (by intro w hSw; obtain ⟨g0, g1, g2⟩ := HG.out _ hSw; go_simp <;> with_reducible rfl) hHeld ?_; simp only [pqZ]
     refine tkI 12 22 rfl (by intro w hSw; obtain ⟨g0, g1, g2⟩ := HG.out _ hSw; go_simp <;> with_reducible rfl) hHeld ?_; simp only [pqZ]
     refine rdZ 13 23 rfl (by kernel_rfl) (fun K hK => ?_)
     go_simp
     refine (ris_any_Lots3 vt vC dL _ HLL.out (HS.out _ hHeld)).mono ?_
     rintro e u1 ⟨rfl, hk1⟩
     have hKeep := since_step hHeld hk1
     rw [HI.out]
     go_wp2_with fail
     refine hK.out _ _ (by (try dsimp only); exact hKeep) (fun hHeld => ?_); clear hK K hKeep; try simp only [pqZ]
     refine tkI 14 24 rfl (by intro w hSw; obtain ⟨g0, g1, g2⟩ := HG.out _ hSw; go_simp <;> with_reducible rfl) hHeld ?_; simp only [pqZ]
     refine tkI 15 25 rfl (by intro w hSw; obtain ⟨g0, g1, g2⟩ := HG.out _ hSw; go_simp <;> with_reducible rfl) hHeld ?_; simp only [pqZ]
     refine tkI 16 26 rfl (by intro w hSw; obtain ⟨g0, g1, g2⟩ := HG.out _ hSw; go_simp <;> with_reducible rfl) hHeld ?_; simp only [pqZ]
     refine tkI 17 27 rfl (by intro w hSw; obtain ⟨g0, g1, g2⟩ := HG.out _ hSw; go_simp <;> with_reducible rfl) hHeld ?_; simp only [pqZ]
     refine tkI 18 28 rfl (by intro w hSw; obtain ⟨g0, g1, g2⟩ := HG.out _ hSw; go_simp <;> with_reducible rfl) hHeld ?_; simp only [pqZ]
     refine tkI 19 29 rfl (by intro w hSw; obtain ⟨g0, g1, g2⟩ := HG.out _ hSw; go_simp <;> with_reducible rfl) hHeld ?_; simp only [pqZ]
     refine tkO 20 30 rfl (by kernel_rfl) (by rfl) hHeld ?_; simp only [pqZ]
     refine tkO 21 31 rfl (by kernel_rfl) (by rfl) hHeld ?_; simp only [pqZ]
     refine tkO 22 32 rfl (by kernel_rfl) (by rfl) hHeld ?_; simp only [pqZ]
     refine tkO 23 33 rfl (by kernel_rfl) (by rfl) hHeld ?_; simp only [pqZ]
     refine tkO 24 34 rfl (by kernel_rfl) (by rfl) hHeld ?_; simp only [pqZ]
     refine tkO 25 35 rfl (by kernel_rfl) (by rfl) hHeld ?_; simp only [pqZ]
     refine tkO 26 36 rfl (by kernel_rfl) (by rfl) hHeld ?_; simp only [pqZ]
     refine tkO 27 37 rfl (by kernel_rfl) (by rfl) hHeld ?_; simp only [pqZ]
     refine tkO 28 38 rfl (by kernel_rfl) (by rfl) hHeld ?_; simp only [pqZ]
     refine tkO 29 39 rfl (by kernel_rfl) (by rfl) hHeld ?_; simp only [pqZ]
     refine tkO 30 40 rfl (by kernel_rfl) (by rfl) hHeld ?_; simp only [pqZ]
     refine tkO 31 41 rfl (by kernel_rfl) (by rfl) hHeld ?_; simp only [pqZ]
     refine tkO 32 42 rfl (by kernel_rfl) (by rfl) hHeld ?_; simp only [pqZ]
     refine tkI 33 43 rfl (by intro w hSw; obtain ⟨g0, g1, g2⟩ := HG.out _ hSw; go_simp <;> with_reducible rfl) hHeld ?_; simp only [pqZ]
     refine tkI 34 44 rfl (by intro w hSw; obtain ⟨g0, g1, g2⟩ := HG.out _ hSw; go_simp <;> with_reducible rfl) hHeld ?_; simp only [pqZ]
     refine wpAnyH_done (by kernel_rfl) ?_ _
     have hB2 := hB.trans (hHeld.mono hB.size)
     go_wp2_with fail
     go_roundw
     case rel => exact ⟨k + 1, by omega, by go_num, HN.out, hB2⟩
     case measure => simp [intOf]; omega
    ·obtain ⟨j, rfl⟩ : ∃ j, k = j + 1 := ⟨k - 1, by omega⟩
     obtain ⟨b', o', hA', hbw', hg'⟩ := (hs.below hB).hd (k := j) (by omega)
     rw [hA] at hA'
     injection hA' with e; injection e with e1 e2; subst e1; subst e2
     have hI2 := (ht.below hB).2 j (Nat.lt_of_succ_lt hlt) (Nat.lt_of_succ_lt hlc)
     have HX : Hid (∀ q, ahH (cs[j]'(Nat.lt_of_succ_lt hlc)) cs[j + 1] = q → if q = true then ((∀ i, (hj : i < cs.length) → i < j + 1 + 1 → okH cs[i] = true) ∧ ∀ i, (hj : i + 1 < cs.length) → i + 1 < j + 1 + 1 → ahH (cs[i]'(Nat.lt_of_succ_lt hj)) cs[i + 1] = true) else isH cs = false) := Lib.hid fun q hq2 => by
      cases q with
      | true =>
       refine ⟨fun i hi hik => ?_, fun i hi hik => ?_⟩
       ·rcases Nat.lt_or_ge i (j + 1) with h | h
        ·exact hno i hi h
        ·obtain rfl : i = j + 1 := by omega
         exact hok
       ·rcases Nat.lt_or_ge (i + 1) (j + 1) with h | h
        ·exact hup i hi h
        ·obtain rfl : i = j := by omega
         exact hq2
      | false => exact isH_low hlc hq2
     have HG : Hid (∀ V, Below wr.heap.size wr V → l[j + 1].at V b (o + (j + 1) * 3) ∧ (l[j]'(Nat.lt_of_succ_lt hlt)).at V b (o + j * 3)) := Lib.hid fun V hV => ⟨Hd.at_keep hg fun i => hV.cell (p := ⟨b, i, none⟩) hbw, Hd.at_keep hg' fun i => hV.cell (p := ⟨b, i, none⟩) hbw⟩
     have hj1 : IntKind.i64.wrap (j : Int) = (j : Int) := IntWalk.i64_in _ (by omega)
     have hj2 : (0 : Int) ≤ (j : Int) := by omega
     have hj3 : (j : Int) < (l.length : Int) := by omega
     have hj4 : (0 : Int) ≤ ((j + 1 : Nat) : Int) := by omega
     have hj5 : (0 : Int) ≤ (j : Int) + 1 := by omega
     have hj6 : (j : Int) + 1 < (l.length : Int) := by omega
     have hj7 : (0 : Int) < (j : Int) + 1 := by omega
     have HI := Lib.hid hi
     clear hno hup hg hg' hq h0 hks hi hok
     generalize l[j + 1] = v at *
     generalize (l[j]'(Nat.lt_of_succ_lt hlt)) = u at *
     generalize cs[j + 1] = d at *
     generalize (cs[j]'(Nat.lt_of_succ_lt hlc)) = d2 at *
     obtain ⟨va, vc, vt, vL, vC⟩ := v
     obtain ⟨ua, uc, ut, uL, uC⟩ := u
     obtain ⟨da, dc, dL⟩ := d
     obtain ⟨ea, ec, eL⟩ := d2
     obtain ⟨i0, i1, i2, i3⟩ := hI
     obtain ⟨k0, k1, k2, k3⟩ := hI2
     simp only at i0 i1 i2 i3 hm hqb HI k0 k1 k2 k3
     subst i0; subst i1; subst i2; subst k0; subst k1; subst k2
     unfold Hd.at at HG
     unfold ahH at HX
     simp only at HG HX
     have HS : Hid (∀ V, Below wr.heap.size wr V → Sl V vt (rc Lt.cells dL)) := Lib.hid fun V hV => i3.below hV
     have HLL : Hid (dL.length ≤ 1000000) := Lib.hid (by omega)
     clear i3 k3
     subst hA
     cases hah : keyLt ua uc va vc with
     | true =>
      have HN := Lib.hid (HX.out _ hah)
      have HL := Lib.hid hah
      simp only [if_true] at HN
      clear HX hah
      go_wp2_with fail
      refine wp_region_held_drew (S := (fun V => Below wr.heap.size wr V)) (by kernel_rfl) (by exact (Below.refl _ _).drew) (fun hHeld => ?_)
      refine tkI 0 10 rfl (by intro w hSw; obtain ⟨⟨g0, g1, g2⟩, h0, h1, h2⟩ := HG.out _ hSw; go_simp <;> with_reducible rfl) hHeld ?_; simp only [pqZ]
      refine tkI 1 11 rfl (by intro w hSw; obtain ⟨⟨g0, g1, g2⟩, h0, h1, h2⟩ := HG.out _ hSw; go_simp <;> with_reducible rfl) hHeld ?_; simp only [pqZ]
      refine tkI 2 12 rfl (by intro w hSw; obtain ⟨⟨g0, g1, g2⟩, h0, h1, h2⟩ := HG.out _ hSw; go_simp <;> with_reducible rfl) hHeld ?_; simp only [pqZ]
      refine tkI 3 13 rfl (by intro w hSw; obtain ⟨⟨g0, g1, g2⟩, h0, h1, h2⟩ := HG.out _ hSw; go_simp <;> with_reducible rfl) hHeld ?_; simp only [pqZ]
      refine tkI 4 14 rfl (by intro w hSw; obtain ⟨⟨g0, g1, g2⟩, h0, h1, h2⟩ := HG.out _ hSw; go_simp <;> with_reducible rfl) hHeld ?_; simp only [pqZ]
      refine tkI 5 15 rfl (by intro w hSw; obtain ⟨⟨g0, g1, g2⟩, h0, h1, h2⟩ := HG.out _ hSw; go_simp <;> with_reducible rfl) hHeld ?_; simp only [pqZ]
      refine tkI 6 16 rfl (by intro w hSw; obtain ⟨⟨g0, g1, g2⟩, h0, h1, h2⟩ := HG.out _ hSw; go_simp <;> with_reducible rfl) hHeld ?_; simp only [pqZ]
      refine tkI 7 17 rfl (by intro w hSw; obtain ⟨⟨g0, g1, g2⟩, h0, h1, h2⟩ := HG.out _ hSw; go_simp <;> with_reducible rfl) hHeld ?_; simp only [pqZ]
      refine tkI 8 18 rfl (by intro w hSw; obtain ⟨⟨g0, g1, g2⟩, h0, h1, h2⟩ := HG.out _ hSw; go_simp <;> with_reducible rfl) hHeld ?_; simp only [pqZ]
      refine tkI 9 19 rfl (by intro w hSw; obtain ⟨⟨g0, g1, g2⟩, h0, h1, h2⟩ := HG.out _ hSw; go_simp <;> with_reducible rfl) hHeld ?_; simp only [pqZ]
      refine tkI 10 20 rfl (by intro w hSw; obtain ⟨⟨g0, g1, g2⟩, h0, h1, h2⟩ := HG.out _ hSw; go_simp <;> with_reducible rfl) hHeld ?_; simp only [pqZ]
      refine tkI 11 21 rfl (by intro w hSw; obtain ⟨⟨g0, g1, g2⟩, h0, h1, h2⟩ := HG.out _ hSw; go_simp <;> with_reducible rfl) hHeld ?_; simp only [pqZ]
      refine tkI 12 22 rfl (by intro w hSw; obtain ⟨⟨g0, g1, g2⟩, h0, h1, h2⟩ := HG.out _ hSw; go_simp <;> with_reducible rfl) hHeld ?_; simp only [pqZ]
      refine rdZ 13 23 rfl (by kernel_rfl) (fun K hK => ?_)
      go_simp
      refine (ris_any_Lots3 vt vC dL _ HLL.out (HS.out _ hHeld)).mono ?_
      rintro e u1 ⟨rfl, hk1⟩
      have hKeep := since_step hHeld hk1
      rw [HI.out]
      go_wp2_with fail
      refine hK.out _ _ (by (try dsimp only); exact hKeep) (fun hHeld => ?_); clear hK K hKeep; try simp only [pqZ]
      refine tkI 14 24 rfl (by intro w hSw; obtain ⟨⟨g0, g1, g2⟩, h0, h1, h2⟩ := HG.out _ hSw; go_simp <;> with_reducible rfl) hHeld ?_; simp only [pqZ]
      refine tkI 15 25 rfl (by intro w hSw; obtain ⟨⟨g0, g1, g2⟩, h0, h1, h2⟩ := HG.out _ hSw; go_simp <;> with_reducible rfl) hHeld ?_; simp only [pqZ]
      refine tkI 16 26 rfl (by intro w hSw; obtain ⟨⟨g0, g1, g2⟩, h0, h1, h2⟩ := HG.out _ hSw; go_simp <;> with_reducible rfl) hHeld ?_; simp only [pqZ]
      refine tkI 17 27 rfl (by intro w hSw; obtain ⟨⟨g0, g1, g2⟩, h0, h1, h2⟩ := HG.out _ hSw; go_simp <;> with_reducible rfl) hHeld ?_; simp only [pqZ]
      refine tkI 18 28 rfl (by intro w hSw; obtain ⟨⟨g0, g1, g2⟩, h0, h1, h2⟩ := HG.out _ hSw; go_simp <;> with_reducible rfl) hHeld ?_; simp only [pqZ]
      refine tkI 19 29 rfl (by intro w hSw; obtain ⟨⟨g0, g1, g2⟩, h0, h1, h2⟩ := HG.out _ hSw; go_simp <;> with_reducible rfl) hHeld ?_; simp only [pqZ]
      refine tkI 20 30 rfl (by intro w hSw; obtain ⟨⟨g0, g1, g2⟩, h0, h1, h2⟩ := HG.out _ hSw; go_simp <;> with_reducible rfl) hHeld ?_; simp only [pqZ]
      refine tkI 21 31 rfl (by intro w hSw; obtain ⟨⟨g0, g1, g2⟩, h0, h1, h2⟩ := HG.out _ hSw; go_simp <;> with_reducible rfl) hHeld ?_; simp only [pqZ]
      refine tkI 22 32 rfl (by intro w hSw; obtain ⟨⟨g0, g1, g2⟩, h0, h1, h2⟩ := HG.out _ hSw; go_simp <;> with_reducible rfl) hHeld ?_; simp only [pqZ]
      refine tkI 23 33 rfl (by intro w hSw; obtain ⟨⟨g0, g1, g2⟩, h0, h1, h2⟩ := HG.out _ hSw; go_simp <;> with_reducible rfl) hHeld ?_; simp only [pqZ]
      refine tkI 24 34 rfl (by intro w hSw; obtain ⟨⟨g0, g1, g2⟩, h0, h1, h2⟩ := HG.out _ hSw; go_simp <;> with_reducible rfl) hHeld ?_; simp only [pqZ]
      refine tkI 25 35 rfl (by intro w hSw; obtain ⟨⟨g0, g1, g2⟩, h0, h1, h2⟩ := HG.out _ hSw; go_simp <;> with_reducible rfl) hHeld ?_; simp only [pqZ]
      refine tkI 26 36 rfl (by intro w hSw; obtain ⟨⟨g0, g1, g2⟩, h0, h1, h2⟩ := HG.out _ hSw; go_simp <;> with_reducible rfl) hHeld ?_; simp only [pqZ]
      refine tkI 27 37 rfl (by intro w hSw; obtain ⟨⟨g0, g1, g2⟩, h0, h1, h2⟩ := HG.out _ hSw; go_simp <;> with_reducible rfl) hHeld ?_; simp only [pqZ]
      refine tkI 28 38 rfl (by intro w hSw; obtain ⟨⟨g0, g1, g2⟩, h0, h1, h2⟩ := HG.out _ hSw; go_simp <;> with_reducible rfl) hHeld ?_; simp only [pqZ]
      refine tkI 29 39 rfl (by intro w hSw; obtain ⟨⟨g0, g1, g2⟩, h0, h1, h2⟩ := HG.out _ hSw; go_simp <;> with_reducible rfl) hHeld ?_; simp only [pqZ]
      refine tkI 30 40 rfl (by intro w hSw; obtain ⟨⟨g0, g1, g2⟩, h0, h1, h2⟩ := HG.out _ hSw; go_simp <;> with_reducible rfl) hHeld ?_; simp only [pqZ]
      refine rdZ 31 41 rfl (by kernel_rfl) (fun K hK => ?_)
      go_simp
      refine (r15less_any _ _ _ _ _).mono ?_
      rintro e u2 ⟨rfl, hk1⟩
      have hKeep := since_step hHeld hk1
      rw [HL.out]
      go_wp2_with fail
      refine hK.out _ _ (by (try dsimp only); exact hKeep) (fun hHeld => ?_); clear hK K hKeep; try simp only [pqZ]
      refine tkI 32 42 rfl (by intro w hSw; obtain ⟨⟨g0, g1, g2⟩, h0, h1, h2⟩ := HG.out _ hSw; go_simp <;> with_reducible rfl) hHeld ?_; simp only [pqZ]
      refine tkI 33 43 rfl (by intro w hSw; obtain ⟨⟨g0, g1, g2⟩, h0, h1, h2⟩ := HG.out _ hSw; go_simp <;> with_reducible rfl) hHeld ?_; simp only [pqZ]
      refine tkI 34 44 rfl (by intro w hSw; obtain ⟨⟨g0, g1, g2⟩, h0, h1, h2⟩ := HG.out _ hSw; go_simp <;> with_reducible rfl) hHeld ?_; simp only [pqZ]
      refine wpAnyH_done (by kernel_rfl) ?_ _
      have hB2 := hB.trans (hHeld.mono hB.size)
      go_wp2_with fail
      go_roundw
      case rel => exact ⟨j + 1 + 1, by omega, by go_num, HN.out, hB2⟩
      case measure => simp [intOf]; omega
     | false =>
      have HR := Lib.hid (HX.out _ hah)
      have HL := Lib.hid hah
      simp only [Bool.false_eq_true, if_false] at HR
      clear HX hah
      go_wp2_with fail
      refine wp_region_held_drew (S := (fun V => Below wr.heap.size wr V)) (by kernel_rfl) (by exact (Below.refl _ _).drew) (fun hHeld => ?_)
      refine tkI 0 10 rfl (by intro w hSw; obtain ⟨⟨g0, g1, g2⟩, h0, h1, h2⟩ := HG.out _ hSw; go_simp <;> with_reducible rfl) hHeld ?_; simp only [pqZ]
      refine tkI 1 11 rfl (by intro w hSw; obtain ⟨⟨g0, g1, g2⟩, h0, h1, h2⟩ := HG.out _ hSw; go_simp <;> with_reducible rfl) hHeld ?_; simp only [pqZ]
      refine tkI 2 12 rfl (by intro w hSw; obtain ⟨⟨g0, g1, g2⟩, h0, h1, h2⟩ := HG.out _ hSw; go_simp <;> with_reducible rfl) hHeld ?_; simp only [pqZ]
      refine tkI 3 13 rfl (by intro w hSw; obtain ⟨⟨g0, g1, g2⟩, h0, h1, h2⟩ := HG.out _ hSw; go_simp <;> with_reducible rfl) hHeld ?_; simp only [pqZ]
      refine tkI 4 14 rfl (by intro w hSw; obtain ⟨⟨g0, g1, g2⟩, h0, h1, h2⟩ := HG.out _ hSw; go_simp <;> with_reducible rfl) hHeld ?_; simp only [pqZ]
      refine tkI 5 15 rfl (by intro w hSw; obtain ⟨⟨g0, g1, g2⟩, h0, h1, h2⟩ := HG.out _ hSw; go_simp <;> with_reducible rfl) hHeld ?_; simp only [pqZ]
      refine tkI 6 16 rfl (by intro w hSw; obtain ⟨⟨g0, g1, g2⟩, h0, h1, h2⟩ := HG.out _ hSw; go_simp <;> with_reducible rfl) hHeld ?_; simp only [pqZ]
      refine tkI 7 17 rfl (by intro w hSw; obtain ⟨⟨g0, g1, g2⟩, h0, h1, h2⟩ := HG.out _ hSw; go_simp <;> with_reducible rfl) hHeld ?_; simp only [pqZ]
      refine tkI 8 18 rfl (by intro w hSw; obtain ⟨⟨g0, g1, g2⟩, h0, h1, h2⟩ := HG.out _ hSw; go_simp <;> with_reducible rfl) hHeld ?_; simp only [pqZ]
      refine tkI 9 19 rfl (by intro w hSw; obtain ⟨⟨g0, g1, g2⟩, h0, h1, h2⟩ := HG.out _ hSw; go_simp <;> with_reducible rfl) hHeld ?_; simp only [pqZ]
      refine tkI 10 20 rfl (by intro w hSw; obtain ⟨⟨g0, g1, g2⟩, h0, h1, h2⟩ := HG.out _ hSw; go_simp <;> with_reducible rfl) hHeld ?_; simp only [pqZ]
      refine tkI 11 21 rfl (by intro w hSw; obtain ⟨⟨g0, g1, g2⟩, h0, h1, h2⟩ := HG.out _ hSw; go_simp <;> with_reducible rfl) hHeld ?_; simp only [pqZ]
      refine tkI 12 22 rfl (by intro w hSw; obtain ⟨⟨g0, g1, g2⟩, h0, h1, h2⟩ := HG.out _ hSw; go_simp <;> with_reducible rfl) hHeld ?_; simp only [pqZ]
      refine rdZ 13 23 rfl (by kernel_rfl) (fun K hK => ?_)
      go_simp
      refine (ris_any_Lots3 vt vC dL _ HLL.out (HS.out _ hHeld)).mono ?_
      rintro e u1 ⟨rfl, hk1⟩
      have hKeep := since_step hHeld hk1
      rw [HI.out]
      go_wp2_with fail
      refine hK.out _ _ (by (try dsimp only); exact hKeep) (fun hHeld => ?_); clear hK K hKeep; try simp only [pqZ]
      refine tkI 14 24 rfl (by intro w hSw; obtain ⟨⟨g0, g1, g2⟩, h0, h1, h2⟩ := HG.out _ hSw; go_simp <;> with_reducible rfl) hHeld ?_; simp only [pqZ]
      refine tkI 15 25 rfl (by intro w hSw; obtain ⟨⟨g0, g1, g2⟩, h0, h1, h2⟩ := HG.out _ hSw; go_simp <;> with_reducible rfl) hHeld ?_; simp only [pqZ]
      refine tkI 16 26 rfl (by intro w hSw; obtain ⟨⟨g0, g1, g2⟩, h0, h1, h2⟩ := HG.out _ hSw; go_simp <;> with_reducible rfl) hHeld ?_; simp only [pqZ]
      refine tkI 17 27 rfl (by intro w hSw; obtain ⟨⟨g0, g1, g2⟩, h0, h1, h2⟩ := HG.out _ hSw; go_simp <;> with_reducible rfl) hHeld ?_; simp only [pqZ]
      refine tkI 18 28 rfl (by intro w hSw; obtain ⟨⟨g0, g1, g2⟩, h0, h1, h2⟩ := HG.out _ hSw; go_simp <;> with_reducible rfl) hHeld ?_; simp only [pqZ]
      refine tkI 19 29 rfl (by intro w hSw; obtain ⟨⟨g0, g1, g2⟩, h0, h1, h2⟩ := HG.out _ hSw; go_simp <;> with_reducible rfl) hHeld ?_; simp only [pqZ]
      refine tkI 20 30 rfl (by intro w hSw; obtain ⟨⟨g0, g1, g2⟩, h0, h1, h2⟩ := HG.out _ hSw; go_simp <;> with_reducible rfl) hHeld ?_; simp only [pqZ]
      refine tkI 21 31 rfl (by intro w hSw; obtain ⟨⟨g0, g1, g2⟩, h0, h1, h2⟩ := HG.out _ hSw; go_simp <;> with_reducible rfl) hHeld ?_; simp only [pqZ]
      refine tkI 22 32 rfl (by intro w hSw; obtain ⟨⟨g0, g1, g2⟩, h0, h1, h2⟩ := HG.out _ hSw; go_simp <;> with_reducible rfl) hHeld ?_; simp only [pqZ]
      refine tkI 23 33 rfl (by intro w hSw; obtain ⟨⟨g0, g1, g2⟩, h0, h1, h2⟩ := HG.out _ hSw; go_simp <;> with_reducible rfl) hHeld ?_; simp only [pqZ]
      refine tkI 24 34 rfl (by intro w hSw; obtain ⟨⟨g0, g1, g2⟩, h0, h1, h2⟩ := HG.out _ hSw; go_simp <;> with_reducible rfl) hHeld ?_; simp only [pqZ]
      refine tkI 25 35 rfl (by intro w hSw; obtain ⟨⟨g0, g1, g2⟩, h0, h1, h2⟩ := HG.out _ hSw; go_simp <;> with_reducible rfl) hHeld ?_; simp only [pqZ]
      refine tkI 26 36 rfl (by intro w hSw; obtain ⟨⟨g0, g1, g2⟩, h0, h1, h2⟩ := HG.out _ hSw; go_simp <;> with_reducible rfl) hHeld ?_; simp only [pqZ]
      refine tkI 27 37 rfl (by intro w hSw; obtain ⟨⟨g0, g1, g2⟩, h0, h1, h2⟩ := HG.out _ hSw; go_simp <;> with_reducible rfl) hHeld ?_; simp only [pqZ]
      refine tkI 28 38 rfl (by intro w hSw; obtain ⟨⟨g0, g1, g2⟩, h0, h1, h2⟩ := HG.out _ hSw; go_simp <;> with_reducible rfl) hHeld ?_; simp only [pqZ]
      refine tkI 29 39 rfl (by intro w hSw; obtain ⟨⟨g0, g1, g2⟩, h0, h1, h2⟩ := HG.out _ hSw; go_simp <;> with_reducible rfl) hHeld ?_; simp only [pqZ]
      refine tkI 30 40 rfl (by intro w hSw; obtain ⟨⟨g0, g1, g2⟩, h0, h1, h2⟩ := HG.out _ hSw; go_simp <;> with_reducible rfl) hHeld ?_; simp only [pqZ]
      refine rdZ 31 41 rfl (by kernel_rfl) (fun K hK => ?_)
      go_simp
      refine (r15less_any _ _ _ _ _).mono ?_
      rintro e u2 ⟨rfl, hk1⟩
      have hKeep := since_step hHeld hk1
      rw [HL.out]
      go_wp2_with fail
      refine hK.out _ _ (by (try dsimp only); exact hKeep) (fun hHeld => ?_); clear hK K hKeep; try simp only [pqZ]
      refine tkI 32 42 rfl (by intro w hSw; obtain ⟨⟨g0, g1, g2⟩, h0, h1, h2⟩ := HG.out _ hSw; go_simp <;> with_reducible rfl) hHeld ?_; simp only [pqZ]
      refine tkI 33 43 rfl (by intro w hSw; obtain ⟨⟨g0, g1, g2⟩, h0, h1, h2⟩ := HG.out _ hSw; go_simp <;> with_reducible rfl) hHeld ?_; simp only [pqZ]
      refine tkI 34 44 rfl (by intro w hSw; obtain ⟨⟨g0, g1, g2⟩, h0, h1, h2⟩ := HG.out _ hSw; go_simp <;> with_reducible rfl) hHeld ?_; simp only [pqZ]
      refine wpAnyH_done (by kernel_rfl) ?_ _
      have hB2 := hB.trans (hHeld.mono hB.size)
      go_wp2_with fail
      go_ret
      exact ⟨retB HR.out.symm, hB2⟩
  ·obtain rfl : k = l.length := by omega
   have HR : Hid (isH cs = true) := Lib.hid ((isH_end fun j hj => hno j hj (HLC.out ▸ hj)).trans ((risingL_iff ahH cs).2 fun j hj => hup j hj (HLC.out ▸ hj)))
   clear hno hup
   go_wp2_with fail
   go_ret
   exact ⟨retB HR.out.symm, hB⟩
theorem lotsH_at {cs : List Hc} {k : Nat} {a c : Int} (hk : k < cs.length) (hno : ∀ j, (hj : j < cs.length) → j < k → unH a c cs[j] = false) (h : unH a c cs[k] = true) : lotsH cs a c = cs[k].L := by
  unfold lotsH; rw [find_some hk (fun j hj => hno j (by omega) hj) h]; rfl
theorem lotsH_none {cs : List Hc} {a c : Int} (hno : ∀ j, (hj : j < cs.length) → unH a c cs[j] = false) : lotsH cs a c = [] := by
  unfold lotsH; rw [find_none fun j hj => hno j hj]; rfl
theorem rhlotsQ_any (A : Option Addr) (cap : Nat) (l : List Hd) (cs : List Hc) (a c : Int) (w : World) (hl : l.length ≤ 900000) (hs : Sl w A (rc Hd.cells l)) (ht : HdTab w l cs) :
    Calls Tryz.prog 31 #[.slice A l.length cap, .agg #[.int .i64 a, .int .i64 c]] w fun e w' => (∃ A' c', e = .returned (.slice A' (lotsH cs a c).length c') ∧ Sl w' A' (rc Lt.cells (lotsH cs a c))) ∧ Below w.heap.size w w' := by
  have HLC := Lib.hid ht.1
  have hB0 := since_alloc (Below.refl _ w) (.cells #[.int .i64 a, .int .i64 c] 41)
  have hK := Bk.new w #[.int .i64 a, .int .i64 c] 41
  have hs0 := hs.alloc (.cells #[.int .i64 a, .int .i64 c] 41)
  have ht0 := ht.below hB0
  have hWs := hB0.size
  clear hs ht
  go_enter Tryz.func31, Tryz.ntmps31
  go_upto_region 1 with fail
  generalize hWW : w.alloc (.cells #[.int .i64 a, .int .i64 c] 41) = W at *
  have ht0 : HdTab W l cs := ht0
  clear hWW
  go_wp2_with fail
  go_loopw [5] (fun i wr => ∃ k : Nat, k ≤ l.length ∧ i = .int .i64 k ∧ (∀ j, (hj : j < cs.length) → j < k → unH a c cs[j] = false) ∧ Below W.heap.size W wr) (fun i _ => l.length - (intOf i).toNat)
  case atStart => exact ⟨0, by omega, rfl, fun j hj h => absurd h (by omega), Below.refl _ _⟩
  case round =>
    obtain ⟨k, hk, rfl, hno, hB⟩ := hrel
    by_cases hlt : k < l.length
    · have hlc : k < cs.length := HLC.out ▸ hlt
      obtain ⟨b, o, rfl, hbw, hg⟩ := (hs0.below hB).hd hlt
      have hI := (ht0.below hB).2 k hlt hlc
      have hlk : (k : Int) < (l.length : Int) := by omega
      have hgk : (0 : Int) ≤ (k : Int) := by omega
      have hks : IntKind.i64.wrap ((k : Int) + 1) = (k : Int) + 1 := IntWalk.i64_in _ (by omega)
      have HG : Hid (∀ V, Below wr.heap.size wr V → l[k].at V b (o + k * 3) ∧ Bk V w.heap.size #[.int .i64 a, .int .i64 c]) := Lib.hid fun V hV => ⟨Hd.at_keep hg fun i => hV.cell (p := ⟨b, i, none⟩) hbw, (hK.below hB).below hV⟩
      have HX : Hid (∀ q, unH a c cs[k] = q → if q = true then lotsH cs a c = cs[k].L else ∀ j, (hj : j < cs.length) → j < k + 1 → unH a c cs[j] = false) := Lib.hid fun q hq => by
        cases q with
        | true => exact lotsH_at hlc hno hq
        | false =>
          intro j hj hjk
          rcases Nat.lt_or_ge j k with h | h
          · exact hno j hj h
          · obtain rfl : j = k := by omega
            exact hq
      clear hno hg
      generalize l[k] = v at *
      generalize cs[k] = d at *
      obtain ⟨va, vc, vt, vL, vC⟩ := v
      obtain ⟨da, dc, dL⟩ := d
      obtain ⟨i0, i1, i2, i3⟩ := hI
      simp only at i0 i1 i2 i3
      subst i0; subst i1; subst i2
      unfold Hd.at at HG
      unfold unH at HX
      simp only at HG HX
      have HS : Hid (∀ V, Below wr.heap.size wr V → Sl V vt (rc Lt.cells dL)) := Lib.hid fun V hV => i3.below hV
      clear i3
      by_cases h1 : va = a
      · subst h1
        by_cases h2 : vc = c
        · subst h2
          have HE := Lib.hid (HX.out true (by simp))
          simp only [if_true] at HE
          clear HX
          go_wp2_with fail
          refine wp_region_held_drew (S := (fun V => Below wr.heap.size wr V)) (by kernel_rfl) (by exact (Below.refl _ _).drew) (fun hHeld => ?_)
          refine tkI 0 12 rfl (by intro w hSw; obtain ⟨⟨g0, g1, g2⟩, lk, ck⟩ := HG.out _ hSw; have k0 := ck 0; have k1 := ck 1; simp at k0 k1; clear ck; go_simp <;> with_reducible rfl) hHeld ?_; simp only [pqZ]
          refine tkI 1 13 rfl (by intro w hSw; obtain ⟨⟨g0, g1, g2⟩, lk, ck⟩ := HG.out _ hSw; have k0 := ck 0; have k1 := ck 1; simp at k0 k1; clear ck; go_simp <;> with_reducible rfl) hHeld ?_; simp only [pqZ]
          refine tkI 2 14 rfl (by intro w hSw; obtain ⟨⟨g0, g1, g2⟩, lk, ck⟩ := HG.out _ hSw; have k0 := ck 0; have k1 := ck 1; simp at k0 k1; clear ck; go_simp <;> with_reducible rfl) hHeld ?_; simp only [pqZ]
          refine tkI 3 15 rfl (by intro w hSw; obtain ⟨⟨g0, g1, g2⟩, lk, ck⟩ := HG.out _ hSw; have k0 := ck 0; have k1 := ck 1; simp at k0 k1; clear ck; go_simp <;> with_reducible rfl) hHeld ?_; simp only [pqZ]
          refine tkI 4 16 rfl (by intro w hSw; obtain ⟨⟨g0, g1, g2⟩, lk, ck⟩ := HG.out _ hSw; have k0 := ck 0; have k1 := ck 1; simp at k0 k1; clear ck; go_simp <;> with_reducible rfl) hHeld ?_; simp only [pqZ]
          refine tkI 5 17 rfl (by intro w hSw; obtain ⟨⟨g0, g1, g2⟩, lk, ck⟩ := HG.out _ hSw; have k0 := ck 0; have k1 := ck 1; simp at k0 k1; clear ck; go_simp <;> with_reducible rfl) hHeld ?_; simp only [pqZ]
          refine tkI 6 18 rfl (by intro w hSw; obtain ⟨⟨g0, g1, g2⟩, lk, ck⟩ := HG.out _ hSw; have k0 := ck 0; have k1 := ck 1; simp at k0 k1; clear ck; go_simp <;> with_reducible rfl) hHeld ?_; simp only [pqZ]
          refine wpAnyH_done (by kernel_rfl) ?_ _
          have hB2 := hB.trans (hHeld.mono hB.size)
          obtain ⟨⟨g0, g1, g2⟩, _, _⟩ := HG.out _ hHeld
          have hfin := HS.out _ hHeld
          go_wp2_with fail
          go_ret
          rw [HE.out]
          exact ⟨⟨vt, vC, rfl, hfin⟩, hB0.trans (hB2.mono hWs)⟩
        · have HN := Lib.hid (HX.out false (by simp [h2]))
          have h2b : (vc == c) = false := by simpa using h2
          simp only [Bool.false_eq_true, if_false] at HN
          have HN : Hid (∀ j, (hj : j < cs.length) → j < k + 1 → unH va c cs[j] = false) := Lib.hid HN.out
          clear HX h2
          go_wp2_with fail
          refine wp_region_held_drew (S := (fun V => Below wr.heap.size wr V)) (by kernel_rfl) (by exact (Below.refl _ _).drew) (fun hHeld => ?_)
          refine tkI 0 12 rfl (by intro w hSw; obtain ⟨⟨g0, g1, g2⟩, lk, ck⟩ := HG.out _ hSw; have k0 := ck 0; have k1 := ck 1; simp at k0 k1; clear ck; go_simp <;> with_reducible rfl) hHeld ?_; simp only [pqZ]
          refine tkI 1 13 rfl (by intro w hSw; obtain ⟨⟨g0, g1, g2⟩, lk, ck⟩ := HG.out _ hSw; have k0 := ck 0; have k1 := ck 1; simp at k0 k1; clear ck; go_simp <;> with_reducible rfl) hHeld ?_; simp only [pqZ]
          refine tkI 2 14 rfl (by intro w hSw; obtain ⟨⟨g0, g1, g2⟩, lk, ck⟩ := HG.out _ hSw; have k0 := ck 0; have k1 := ck 1; simp at k0 k1; clear ck; go_simp <;> with_reducible rfl) hHeld ?_; simp only [pqZ]
          refine tkI 3 15 rfl (by intro w hSw; obtain ⟨⟨g0, g1, g2⟩, lk, ck⟩ := HG.out _ hSw; have k0 := ck 0; have k1 := ck 1; simp at k0 k1; clear ck; go_simp <;> with_reducible rfl) hHeld ?_; simp only [pqZ]
          refine tkI 4 16 rfl (by intro w hSw; obtain ⟨⟨g0, g1, g2⟩, lk, ck⟩ := HG.out _ hSw; have k0 := ck 0; have k1 := ck 1; simp at k0 k1; clear ck; go_simp <;> with_reducible rfl) hHeld ?_; simp only [pqZ]
          refine tkI 5 17 rfl (by intro w hSw; obtain ⟨⟨g0, g1, g2⟩, lk, ck⟩ := HG.out _ hSw; have k0 := ck 0; have k1 := ck 1; simp at k0 k1; clear ck; go_simp <;> with_reducible rfl) hHeld ?_; simp only [pqZ]
          refine tkI 6 18 rfl (by intro w hSw; obtain ⟨⟨g0, g1, g2⟩, lk, ck⟩ := HG.out _ hSw; have k0 := ck 0; have k1 := ck 1; simp at k0 k1; clear ck; go_simp <;> with_reducible rfl) hHeld ?_; simp only [pqZ]
          refine wpAnyH_done (by kernel_rfl) ?_ _
          have hB2 := hB.trans (hHeld.mono hB.size)
          go_wp2_with fail
          go_roundw
          case rel => exact ⟨k + 1, by omega, by go_num, HN.out, hB2⟩
          case measure => simp [intOf]; omega
      · have HN := Lib.hid (HX.out false (by simp [h1]))
        have h1b : (va == a) = false := by simpa using h1
        simp only [Bool.false_eq_true, if_false] at HN
        have HN : Hid (∀ j, (hj : j < cs.length) → j < k + 1 → unH a c cs[j] = false) := Lib.hid HN.out
        clear HX h1
        go_wp2_with fail
        refine wp_region_held_drew (S := (fun V => Below wr.heap.size wr V)) (by kernel_rfl) (by exact (Below.refl _ _).drew) (fun hHeld => ?_)
        refine tkI 0 12 rfl (by intro w hSw; obtain ⟨⟨g0, g1, g2⟩, lk, ck⟩ := HG.out _ hSw; have k0 := ck 0; have k1 := ck 1; simp at k0 k1; clear ck; go_simp <;> with_reducible rfl) hHeld ?_; simp only [pqZ]
        refine tkI 1 13 rfl (by intro w hSw; obtain ⟨⟨g0, g1, g2⟩, lk, ck⟩ := HG.out _ hSw; have k0 := ck 0; have k1 := ck 1; simp at k0 k1; clear ck; go_simp <;> with_reducible rfl) hHeld ?_; simp only [pqZ]
        refine tkI 2 14 rfl (by intro w hSw; obtain ⟨⟨g0, g1, g2⟩, lk, ck⟩ := HG.out _ hSw; have k0 := ck 0; have k1 := ck 1; simp at k0 k1; clear ck; go_simp <;> with_reducible rfl) hHeld ?_; simp only [pqZ]
        refine tkI 3 15 rfl (by intro w hSw; obtain ⟨⟨g0, g1, g2⟩, lk, ck⟩ := HG.out _ hSw; have k0 := ck 0; have k1 := ck 1; simp at k0 k1; clear ck; go_simp <;> with_reducible rfl) hHeld ?_; simp only [pqZ]
        refine tkI 4 16 rfl (by intro w hSw; obtain ⟨⟨g0, g1, g2⟩, lk, ck⟩ := HG.out _ hSw; have k0 := ck 0; have k1 := ck 1; simp at k0 k1; clear ck; go_simp <;> with_reducible rfl) hHeld ?_; simp only [pqZ]
        refine tkI 5 17 rfl (by intro w hSw; obtain ⟨⟨g0, g1, g2⟩, lk, ck⟩ := HG.out _ hSw; have k0 := ck 0; have k1 := ck 1; simp at k0 k1; clear ck; go_simp <;> with_reducible rfl) hHeld ?_; simp only [pqZ]
        refine tkI 6 18 rfl (by intro w hSw; obtain ⟨⟨g0, g1, g2⟩, lk, ck⟩ := HG.out _ hSw; have k0 := ck 0; have k1 := ck 1; simp at k0 k1; clear ck; go_simp <;> with_reducible rfl) hHeld ?_; simp only [pqZ]
        refine wpAnyH_done (by kernel_rfl) ?_ _
        have hB2 := hB.trans (hHeld.mono hB.size)
        go_wp2_with fail
        go_roundw
        case rel => exact ⟨k + 1, by omega, by go_num, HN.out, hB2⟩
        case measure => simp [intOf]; omega
    · have HR : Hid (lotsH cs a c = []) := Lib.hid (lotsH_none fun j hj => hno j hj (by have := HLC.out; omega))
      clear hno
      go_wp2_with fail
      go_ret
      rw [HR.out]
      exact ⟨⟨none, 0, rfl, Sl.nil⟩, hB0.trans (hB.mono hWs)⟩
end Go.Proofs.YtmjndpkfhdoljaaGreat.Hq
end
