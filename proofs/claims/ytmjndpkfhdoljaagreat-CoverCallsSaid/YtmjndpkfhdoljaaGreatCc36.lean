import Derived.Test.YtmjndpkfhdoljaaGreatCc30
import Derived.Test.YtmjndpkfhdoljaaGreatCc34
import Derived.Test.YtmjndpkfhdoljaaGreatCc35
import Derived.Test.YtmjndpkfhdoljaaGreatCc10
import Derived.Test.YtmjndpkfhdoljaaGreatCc11
import Derived.Test.YtmjndpkfhdoljaaGreatCc26
import Derived.Test.YtmjndpkfhdoljaaGreatCc08
import Derived.Test.YtmjndpkfhdoljaaGreatCc27
import Derived.Test.YtmjndpkfhdoljaaGreatCc33
set_option maxHeartbeats 16000000
set_option maxRecDepth 100000
set_option linter.unusedVariables false
set_option linter.unusedSimpArgs false
namespace Go.Proofs.YtmjndpkfhdoljaaGreat
open Go.ChangeShapes Go.WideShapes Go.ChangeAt Go.RowKit
section
def ZB (w : World) (g : Nat) : Prop := Bk w g #[.slice none 0 0, .slice none 0 0, .slice none 0 0, .slice none 0 0, .slice none 0 0] ∧ w.frozen? ⟨g, 0, none⟩ = false ∧ w.frozen? ⟨g, 1, none⟩ = false ∧ w.frozen? ⟨g, 2, none⟩ = false ∧ w.frozen? ⟨g, 3, none⟩ = false ∧ w.frozen? ⟨g, 4, none⟩ = false
theorem ZB.new (w : World) (t : TypeId) : ZB (w.alloc (.cells #[.slice none 0 0, .slice none 0 0, .slice none 0 0, .slice none 0 0, .slice none 0 0] t)) w.heap.size := ⟨Bk.new _ _ _, by simp, by simp, by simp, by simp, by simp⟩
theorem ZB.below {w w' : World} {g : Nat} (h : ZB w g) (hb : Below w.heap.size w w') : ZB w' g :=
  ⟨h.1.below hb, (hb.frozen (p := ⟨g, 0, none⟩) h.1.1).trans h.2.1, (hb.frozen (p := ⟨g, 1, none⟩) h.1.1).trans h.2.2.1, (hb.frozen (p := ⟨g, 2, none⟩) h.1.1).trans h.2.2.2.1, (hb.frozen (p := ⟨g, 3, none⟩) h.1.1).trans h.2.2.2.2.1, (hb.frozen (p := ⟨g, 4, none⟩) h.1.1).trans h.2.2.2.2.2⟩
theorem ZB.got {w : World} {g : Nat} (h : ZB w g) : g < w.heap.size ∧ (w.cell? ⟨g, 0, none⟩ = some (.slice none 0 0) ∧ w.cell? ⟨g, 1, none⟩ = some (.slice none 0 0) ∧ w.cell? ⟨g, 2, none⟩ = some (.slice none 0 0) ∧ w.cell? ⟨g, 3, none⟩ = some (.slice none 0 0) ∧ w.cell? ⟨g, 4, none⟩ = some (.slice none 0 0)) ∧ w.frozen? ⟨g, 0, none⟩ = false ∧ w.frozen? ⟨g, 1, none⟩ = false ∧ w.frozen? ⟨g, 2, none⟩ = false ∧ w.frozen? ⟨g, 3, none⟩ = false ∧ w.frozen? ⟨g, 4, none⟩ = false := ⟨h.1.1, ⟨h.1.2 0, h.1.2 1, h.1.2 2, h.1.2 3, h.1.2 4⟩, h.2⟩
theorem Bk.far27 {w : World} {b : Nat} {cs : Array Value} (h : Bk w b cs) {p : Addr} (hp : p.block ≠ b) (u : Value) : Bk (w.setCell p u) b cs := by
  refine ⟨by simpa using h.1, fun o => ?_⟩
  rw [cell_set, if_neg (fun e => hp (by rw [e]))]
  exact h.2 o
def HeadI (xs : List Value) : Prop := ∀ v, xs[0]? = some v → ∃ i, v = .int .i64 i
theorem ZB.away {w : World} {g : Nat} (hb : ZB w g) {A : Option Addr} {xs : List Value} (h : Sl w A xs) (hx : HeadI xs) (hne : xs ≠ []) : ∀ b o, A = some ⟨b, o, none⟩ → b ≠ g := by
  intro b o hA he
  cases xs with
  | nil => exact hne rfl
  | cons x r =>
    obtain ⟨i, rfl⟩ := hx x rfl
    obtain ⟨b', o', hA', hc⟩ := h.at_ (j := 0) (by simp)
    rw [hA] at hA'
    injection hA' with hA'
    injection hA' with e1 e2
    subst e1; subst e2; subst he
    have h2 := hb.1.2 (o + 0)
    rw [h2] at hc
    rcases o with _ | _ | _ | _ | _ | o <;> simp at hc
theorem Sl.off5 {w : World} {g : Nat} {A : Option Addr} {xs : List Value} (h : Sl w A xs) (hb : ZB w g) (hx : HeadI xs) (a0 a1 a2 a3 a4 : Value) : Sl (((((w.setCell ⟨g, 0, none⟩ a0).setCell ⟨g, 1, none⟩ a1).setCell ⟨g, 2, none⟩ a2).setCell ⟨g, 3, none⟩ a3).setCell ⟨g, 4, none⟩ a4) A xs := by
  by_cases hne : xs = []
  · subst hne; exact Sl.nil
  · have ha := hb.away h hx hne
    exact ((((h.far (p := ⟨g, 0, none⟩) ha a0).far (p := ⟨g, 1, none⟩) ha a1).far (p := ⟨g, 2, none⟩) ha a2).far (p := ⟨g, 3, none⟩) ha a3).far (p := ⟨g, 4, none⟩) ha a4
theorem headI_Po (l : List Po) : HeadI (rc Po.cells l) := by
  intro v hv
  cases l with
  | nil => simp [rc] at hv
  | cons x r => rw [rc_cons] at hv; injection hv with hv; exact ⟨_, hv.symm⟩
theorem headI_Fw (l : List Fw) : HeadI (rc Fw.cells l) := by
  intro v hv
  cases l with
  | nil => simp [rc] at hv
  | cons x r => rw [rc_cons] at hv; injection hv with hv; exact ⟨_, hv.symm⟩
theorem headI_Lg (l : List Lg) : HeadI (rc Lg.cells l) := by
  intro v hv
  cases l with
  | nil => simp [rc] at hv
  | cons x r => rw [rc_cons] at hv; injection hv with hv; exact ⟨_, hv.symm⟩
theorem headI_Ax (l : List Ax) : HeadI (rc Ax.cells l) := by
  intro v hv
  cases l with
  | nil => simp [rc] at hv
  | cons x r => rw [rc_cons] at hv; injection hv with hv; exact ⟨_, hv.symm⟩
theorem headI_Iq (l : List Iq) : HeadI (rc Iq.cells l) := by
  intro v hv
  cases l with
  | nil => simp [rc] at hv
  | cons x r => rw [rc_cons] at hv; injection hv with hv; exact ⟨_, hv.symm⟩
theorem headI_Hd (l : List Hd) : HeadI (rc Hd.cells l) := by
  intro v hv
  cases l with
  | nil => simp [rc] at hv
  | cons x r => rw [rc_cons] at hv; injection hv with hv; exact ⟨_, hv.symm⟩
theorem headI_Lt (l : List Lt) : HeadI (rc Lt.cells l) := by
  intro v hv
  cases l with
  | nil => simp [rc] at hv
  | cons x r => rw [rc_cons] at hv; injection hv with hv; exact ⟨_, hv.symm⟩
theorem headI_ints (l : List Int) : HeadI (ints .i64 l) := by
  intro v hv
  cases l with
  | nil => simp [ints] at hv
  | cons x r => simp [ints] at hv; exact ⟨_, hv.symm⟩
theorem PoTab.off5 {w : World} {g : Nat} {l : List Po} {cs : List Pc} (h : PoTab w l cs) (hb : ZB w g) (a0 a1 a2 a3 a4 : Value) : PoTab (((((w.setCell ⟨g, 0, none⟩ a0).setCell ⟨g, 1, none⟩ a1).setCell ⟨g, 2, none⟩ a2).setCell ⟨g, 3, none⟩ a3).setCell ⟨g, 4, none⟩ a4) l cs :=
  ⟨h.1, fun k h1 h2 => ⟨(h.2 k h1 h2).ac, (h.2 k h1 h2).cl, (h.2 k h1 h2).len, (h.2 k h1 h2).sl.off5 hb (headI_Lg _) _ _ _ _ _⟩⟩
theorem HdTab.off5 {w : World} {g : Nat} {l : List Hd} {cs : List Hc} (h : HdTab w l cs) (hb : ZB w g) (a0 a1 a2 a3 a4 : Value) : HdTab (((((w.setCell ⟨g, 0, none⟩ a0).setCell ⟨g, 1, none⟩ a1).setCell ⟨g, 2, none⟩ a2).setCell ⟨g, 3, none⟩ a3).setCell ⟨g, 4, none⟩ a4) l cs :=
  ⟨h.1, fun k h1 h2 => ⟨(h.2 k h1 h2).ac, (h.2 k h1 h2).cl, (h.2 k h1 h2).len, (h.2 k h1 h2).sl.off5 hb (headI_Lt _) _ _ _ _ _⟩⟩
theorem InTab.off5 {w : World} {g : Nat} {l : List Iq} {is : List Ins} (h : InTab w l is) (hb : ZB w g) (a0 a1 a2 a3 a4 : Value) : InTab (((((w.setCell ⟨g, 0, none⟩ a0).setCell ⟨g, 1, none⟩ a1).setCell ⟨g, 2, none⟩ a2).setCell ⟨g, 3, none⟩ a3).setCell ⟨g, 4, none⟩ a4) l is :=
  ⟨h.1, fun k h1 h2 => ⟨(h.2 k h1 h2).id, (h.2 k h1 h2).mult, (h.2 k h1 h2).price, (h.2 k h1 h2).nxt, (h.2 k h1 h2).len, (h.2 k h1 h2).at_.cap, (h.2 k h1 h2).at_.sl.off5 hb (headI_ints _) _ _ _ _ _, (h.2 k h1 h2).at_.mv64, (h.2 k h1 h2).at_.n64⟩⟩
theorem SD.off5 {w : World} {g : Nat} {aA : Option Addr} {asl : List Ax} {iA : Option Addr} {li : List Iq} {is : List Ins} {pA : Option Addr} {lp : List Po} {cs : List Pc} {fA : Option Addr} {fl : List Fw} {hA : Option Addr} {lh : List Hd} {hs : List Hc} (h : SD w aA asl iA li is pA lp cs fA fl hA lh hs) (hb : ZB w g) (a0 a1 a2 a3 a4 : Value) : SD (((((w.setCell ⟨g, 0, none⟩ a0).setCell ⟨g, 1, none⟩ a1).setCell ⟨g, 2, none⟩ a2).setCell ⟨g, 3, none⟩ a3).setCell ⟨g, 4, none⟩ a4) aA asl iA li is pA lp cs fA fl hA lh hs :=
  ⟨h.1.off5 hb (headI_Ax _) _ _ _ _ _, ⟨h.2.1.1.off5 hb (headI_Iq _) _ _ _ _ _, h.2.1.2.off5 hb _ _ _ _ _⟩, ⟨h.2.2.1.1.off5 hb (headI_Po _) _ _ _ _ _, h.2.2.1.2.off5 hb _ _ _ _ _⟩, h.2.2.2.1.off5 hb (headI_Fw _) _ _ _ _ _, h.2.2.2.2.1.off5 hb (headI_Hd _) _ _ _ _ _, h.2.2.2.2.2.off5 hb _ _ _ _ _⟩
def Few27 (w' : World) (e : Ending) : Prop :=
  ∃ (aA : Option Addr) (ac : Nat) (asl : List Ax) (iA : Option Addr) (ic : Nat) (li : List Iq) (is : List Ins) (pA : Option Addr) (pc : Nat) (lp : List Po) (cs : List Pc) (fA : Option Addr) (fc : Nat) (fl : List Fw) (hA : Option Addr) (hc : Nat) (lh : List Hd) (hs : List Hc),
    e = .returned (.agg #[.slice aA asl.length ac, .slice iA li.length ic, .slice pA lp.length pc, .slice fA fl.length fc, .slice hA lh.length hc]) ∧ SD w' aA asl iA li is pA lp cs fA fl hA lh hs ∧ SB asl li is lp cs fl lh hs
theorem few27_any (aA : Option Addr) (ac : Nat) (al : List Ax) (iA : Option Addr) (ic : Nat) (li : List Iq) (pA : Option Addr) (pc : Nat) (lp : List Po) (fA : Option Addr) (fc : Nat) (fl : List Fw) (hA : Option Addr) (hc : Nat) (lh : List Hd) (w : World)
    (s1 : Sl w aA (rc Ax.cells al)) (s2 : Sl w iA (rc Iq.cells li)) (g2 : ∀ g ∈ li, ∃ i : Ins, GI w g i) (s3 : Sl w pA (rc Po.cells lp)) (g3 : ∀ g ∈ lp, InK w g) (s4 : Sl w fA (rc Fw.cells fl)) (hfc : fl.length ≤ fc) (hfm : fc ≤ maxLen) (hf6 : ∀ x ∈ fl, In64 x.amt) (s5 : Sl w hA (rc Hd.cells lh)) (g5 : ∀ g ∈ lh, Hq.InH w g) :
    Calls Tryz.prog 5 #[.agg #[.slice aA al.length ac, .slice iA li.length ic, .slice pA lp.length pc, .slice fA fl.length fc, .slice hA lh.length hc]] w fun e w' => Few27 w' e ∧ Below w.heap.size w w' := by
  have hB0 := since_alloc (since_alloc (Below.refl _ w) (.cells #[.slice aA al.length ac, .slice iA li.length ic, .slice pA lp.length pc, .slice fA fl.length fc, .slice hA lh.length hc] 28)) (.cells #[.slice none 0 0, .slice none 0 0, .slice none 0 0, .slice none 0 0, .slice none 0 0] 34)
  have K1 := (Bk.new w #[.slice aA al.length ac, .slice iA li.length ic, .slice pA lp.length pc, .slice fA fl.length fc, .slice hA lh.length hc] 28).alloc (.cells #[.slice none 0 0, .slice none 0 0, .slice none 0 0, .slice none 0 0, .slice none 0 0] 34)
  have X0 := ZB.new (w.alloc (.cells #[.slice aA al.length ac, .slice iA li.length ic, .slice pA lp.length pc, .slice fA fl.length fc, .slice hA lh.length hc] 28)) 34
  rw [World.size_alloc] at X0
  have HFA := fun V (h : Below w.heap.size w V) => rtableq_any_CoverM aA ac al V (s1.below h)
  have HFI := fun V (h : Below w.heap.size w V) => instsk_any iA ic li V (s2.below h) (fun g hg => by obtain ⟨i, hi⟩ := g2 g hg; exact ⟨i, hi.below h⟩)
  have HFP := fun V (h : Below w.heap.size w V) => few19k_any pA pc lp V (s3.below h) (fun g hg => (g3 g hg).below h)
  have HFF := fun V (h : Below w.heap.size w V) => few17_any fA fc fl V hfc hfm (s4.below h)
  have HFH := fun V (h : Below w.heap.size w V) => Hq.few26_any hA hc lh V (s5.below h) (fun g hg => by obtain ⟨L, h1, h2, h3, h4, h5⟩ := g5 g hg; exact ⟨L, h1, h2, h3, h4.below h, h5⟩)
  have HFS := fun V (h : Below w.heap.size w V) => by
    have h2 := (s4.below h).take (20 * 3)
    rw [rc_take Fw.len] at h2
    exact h2
  have hl4 : (fl.take 20).length ≤ 20 := by simp; omega
  have hq4 : ∀ x ∈ fl.take 20, In64 x.amt := fun x hx => hf6 x (List.mem_of_mem_take hx)
  have HL4 := Lib.hid (And.intro hl4 hq4)
  generalize fl.take 20 = ft at *
  clear s1 s2 g2 s3 g3 s4 hfc hfm hf6 s5 g5 hl4 hq4
  go_enter Tryz.func5, Tryz.ntmps5
  go_upto_region 1 with fail
  generalize hWW : (w.alloc (.cells #[.slice aA al.length ac, .slice iA li.length ic, .slice pA lp.length pc, .slice fA fl.length fc, .slice hA lh.length hc] 28)).alloc (.cells #[.slice none 0 0, .slice none 0 0, .slice none 0 0, .slice none 0 0, .slice none 0 0] 34) = W at *
  clear hWW
  have HQ : Hid (∀ V, Bk V w.heap.size #[.slice aA al.length ac, .slice iA li.length ic, .slice pA lp.length pc, .slice fA fl.length fc, .slice hA lh.length hc] ∧ Below w.heap.size w V → V.cell? ⟨w.heap.size, 0, none⟩ = some (.slice aA al.length ac) ∧ V.cell? ⟨w.heap.size, 1, none⟩ = some (.slice iA li.length ic) ∧ V.cell? ⟨w.heap.size, 2, none⟩ = some (.slice pA lp.length pc) ∧ V.cell? ⟨w.heap.size, 3, none⟩ = some (.slice fA fl.length fc) ∧ V.cell? ⟨w.heap.size, 4, none⟩ = some (.slice hA lh.length hc)) := Lib.hid fun V h => ⟨h.1.2 0, h.1.2 1, h.1.2 2, h.1.2 3, h.1.2 4⟩
  have HFA := Lib.hid HFA
  have HFI := Lib.hid HFI
  have HFP := Lib.hid HFP
  have HFF := Lib.hid HFF
  have HFH := Lib.hid HFH
  have HFS := Lib.hid HFS
  have X := X0.below (Below.refl _ _).drew
  clear X0
  go_wp2_with fail
  refine wp_region_held_drew (S := (fun V => Bk V w.heap.size #[.slice aA al.length ac, .slice iA li.length ic, .slice pA lp.length pc, .slice fA fl.length fc, .slice hA lh.length hc] ∧ Below w.heap.size w V)) (by kernel_rfl) (by exact ⟨K1.below (Below.refl _ _).drew, hB0.drew⟩) (fun hHeld => ?_)
  refine tkJ 0 3 rfl (by intro w; go_simp <;> with_reducible rfl) hHeld ?_; simp only [pqZ]
  refine tkI 1 4 rfl (by intro w hSw; obtain ⟨s0, s1, s2, s3, s4⟩ := HQ.out _ (hSw); go_simp <;> with_reducible rfl) hHeld ?_; simp only [pqZ]
  refine tkJ 3 6 rfl (by intro w; go_simp <;> with_reducible rfl) hHeld ?_; simp only [pqZ]
  refine tkI 4 7 rfl (by intro w hSw; obtain ⟨s0, s1, s2, s3, s4⟩ := HQ.out _ (hSw); go_simp <;> with_reducible rfl) hHeld ?_; simp only [pqZ]
  refine tkJ 6 9 rfl (by intro w; go_simp <;> with_reducible rfl) hHeld ?_; simp only [pqZ]
  refine tkI 7 10 rfl (by intro w hSw; obtain ⟨s0, s1, s2, s3, s4⟩ := HQ.out _ (hSw); go_simp <;> with_reducible rfl) hHeld ?_; simp only [pqZ]
  refine tkJ 9 12 rfl (by intro w; go_simp <;> with_reducible rfl) hHeld ?_; simp only [pqZ]
  refine tkI 10 13 rfl (by intro w hSw; obtain ⟨s0, s1, s2, s3, s4⟩ := HQ.out _ (hSw); go_simp <;> with_reducible rfl) hHeld ?_; simp only [pqZ]
  refine tkJ 12 15 rfl (by intro w; go_simp <;> with_reducible rfl) hHeld ?_; simp only [pqZ]
  refine tkI 13 16 rfl (by intro w hSw; obtain ⟨s0, s1, s2, s3, s4⟩ := HQ.out _ (hSw); go_simp <;> with_reducible rfl) hHeld ?_; simp only [pqZ]
  refine rdZ 2 5 rfl (by kernel_rfl) (fun K hK => ?_)
  go_simp
  refine (HFA.out _ hHeld.2).mono ?_
  rintro e y1 ⟨⟨RA, A1, c1, rfl, o1_, hok, hR8⟩, hk1⟩
  have hKeep := And.intro (hHeld.1.below hk1) (since_step hHeld.2 hk1)
  have X := X.below hk1
  have d1 := Sl.of_own o1_
  have HO1 := Lib.hid (And.intro hok hR8)
  clear hk1 o1_ hok hR8
  go_wp2_with fail
  refine hK.out _ _ (by (try dsimp only); exact hKeep) (fun hHeld => ?_); clear hK K hKeep; try simp only [pqZ]
  refine rdZ 5 8 rfl (by kernel_rfl) (fun K hK => ?_)
  go_simp
  refine (HFI.out _ hHeld.2).mono ?_
  rintro e y2 ⟨⟨RI, ii, A2, c2, rfl, d2, t2, hR2, hg2⟩, hk1⟩
  have hKeep := And.intro (hHeld.1.below hk1) (since_step hHeld.2 hk1)
  have X := X.below hk1
  have d1 := d1.below hk1
  have HO2 := Lib.hid (And.intro hR2 hg2)
  clear hk1 hR2 hg2
  go_wp2_with fail
  refine hK.out _ _ (by (try dsimp only); exact hKeep) (fun hHeld => ?_); clear hK K hKeep; try simp only [pqZ]
  refine rdZ 8 11 rfl (by kernel_rfl) (fun K hK => ?_)
  go_simp
  refine (HFP.out _ hHeld.2).mono ?_
  rintro e y3 ⟨⟨RP, pp, A3, c3, rfl, d3, t3, _, hR3, hg3, _⟩, hk1⟩
  have hKeep := And.intro (hHeld.1.below hk1) (since_step hHeld.2 hk1)
  have X := X.below hk1
  have d1 := d1.below hk1
  have d2 := d2.below hk1
  have t2 := t2.below hk1
  have HO3 := Lib.hid (And.intro hR3 hg3)
  clear hk1 hR3 hg3
  go_wp2_with fail
  refine hK.out _ _ (by (try dsimp only); exact hKeep) (fun hHeld => ?_); clear hK K hKeep; try simp only [pqZ]
  refine rdZ 11 14 rfl (by kernel_rfl) (fun K hK => ?_)
  go_simp
  refine (HFF.out _ hHeld.2).mono ?_
  rintro e y4 ⟨rfl, hk1⟩
  have hKeep := And.intro (hHeld.1.below hk1) (since_step hHeld.2 hk1)
  have X := X.below hk1
  have d1 := d1.below hk1
  have d2 := d2.below hk1
  have t2 := t2.below hk1
  have d3 := d3.below hk1
  have t3 := t3.below hk1
  clear hk1
  go_wp2_with fail
  refine hK.out _ _ (by (try dsimp only); exact hKeep) (fun hHeld => ?_); clear hK K hKeep; try simp only [pqZ]
  refine rdZ 14 17 rfl (by kernel_rfl) (fun K hK => ?_)
  go_simp
  refine (HFH.out _ hHeld.2).mono ?_
  rintro e y5 ⟨⟨RH, hh, A5, c5, rfl, d5, t5, _, hR5, hg5⟩, hk1⟩
  have hKeep := And.intro (hHeld.1.below hk1) (since_step hHeld.2 hk1)
  have X := X.below hk1
  have d1 := d1.below hk1
  have d2 := d2.below hk1
  have t2 := t2.below hk1
  have d3 := d3.below hk1
  have t3 := t3.below hk1
  have HO5 := Lib.hid (And.intro hR5 hg5)
  clear hk1 hR5 hg5
  go_wp2_with fail
  refine hK.out _ _ (by (try dsimp only); exact hKeep) (fun hHeld => ?_); clear hK K hKeep; try simp only [pqZ]
  refine tkJ 15 18 rfl (by intro w; go_simp <;> with_reducible rfl) hHeld ?_; simp only [pqZ]
  refine wpAnyH_ready (rs := [16]) (by kernel_rfl) (by simp) ?_
  refine AllReadyH.cons (o := ⟨none, _, _, _, _, _⟩) rfl (fun K hK => ?_) AllReadyH.nil
  have hHd := hHeld
  obtain ⟨s0, s1, s2, s3, s4⟩ := HQ.out _ (hHd)
  obtain ⟨z_, ⟨x0, x1, x2, x3, x4⟩, ⟨f0, f1, f2, f3, f4⟩⟩ := X.got
  have d4 := (HFS.out _ hHeld.2)
  have HD : SD y5 A1 RA A2 RI ii A3 RP pp fA ft A5 RH hh := ⟨d1, ⟨d2, t2⟩, ⟨d3, t3⟩, d4, d5, t5⟩
  have HDD := Lib.hid (HD.off5 X (.slice A1 RA.length c1) (.slice A2 RI.length c2) (.slice A3 RP.length c3) (.slice fA ft.length fc) (.slice A5 RH.length c5))
  have hKeep := And.intro (((((hHeld.1.far27 (p := ⟨w.heap.size + 1, 0, none⟩) (by show w.heap.size + 1 ≠ _; omega) (.slice A1 RA.length c1)).far27 (p := ⟨w.heap.size + 1, 1, none⟩) (by show w.heap.size + 1 ≠ _; omega) (.slice A2 RI.length c2)).far27 (p := ⟨w.heap.size + 1, 2, none⟩) (by show w.heap.size + 1 ≠ _; omega) (.slice A3 RP.length c3)).far27 (p := ⟨w.heap.size + 1, 3, none⟩) (by show w.heap.size + 1 ≠ _; omega) (.slice fA ft.length fc)).far27 (p := ⟨w.heap.size + 1, 4, none⟩) (by show w.heap.size + 1 ≠ _; omega) (.slice A5 RH.length c5)) (Below.setCell (Below.setCell (Below.setCell (Below.setCell (Below.setCell hHeld.2 (p := ⟨w.heap.size + 1, 0, none⟩) (by show w.heap.size ≤ w.heap.size + 1; omega) (.slice A1 RA.length c1)) (p := ⟨w.heap.size + 1, 1, none⟩) (by show w.heap.size ≤ w.heap.size + 1; omega) (.slice A2 RI.length c2)) (p := ⟨w.heap.size + 1, 2, none⟩) (by show w.heap.size ≤ w.heap.size + 1; omega) (.slice A3 RP.length c3)) (p := ⟨w.heap.size + 1, 3, none⟩) (by show w.heap.size ≤ w.heap.size + 1; omega) (.slice fA ft.length fc)) (p := ⟨w.heap.size + 1, 4, none⟩) (by show w.heap.size ≤ w.heap.size + 1; omega) (.slice A5 RH.length c5))
  skip
  go_simp
  refine hK.out _ _ (by (try dsimp only); exact hKeep) (fun hHeld => ?_); clear hK K hKeep; try simp only [pqZ]
  refine wpAnyH_done (by kernel_rfl) ?_ _
  go_wp2_with fail
  refine bodyPost_ret (v := .agg #[.slice A1 RA.length c1, .slice A2 RI.length c2, .slice A3 RP.length c3, .slice fA ft.length fc, .slice A5 RH.length c5]) ?_ rfl ⟨?_, ?_⟩
  · simp [results, Tryz.results5, go_sem, x0, x1, x2, x3, x4, cell_set]
  · exact ⟨A1, c1, RA, A2, c2, RI, ii, A3, c3, RP, pp, fA, fc, ft, A5, c5, RH, hh, rfl, HDD.out, ⟨by have := HO1.out.2; omega, HO1.out.1, fun g hg => by have := (HO1.out.1 g hg).2.2.1; simp only at this; unfold In64; omega⟩, ⟨by have := HO2.out.1; omega, fun i hi => by have := (HO2.out.2 i hi).1; omega⟩, ⟨by have := HO3.out.1; omega, fun g hg => by have := HO3.out.2.1 g hg; omega, HO3.out.2.2⟩, ⟨by have := HL4.out.1; omega, HL4.out.2⟩, ⟨by have := HO5.out.1; omega, fun g hg => by have := HO5.out.2.1 g hg; omega, HO5.out.2.2⟩⟩
  · exact hHeld.2
end
section
def BN (w : World) (g : Nat) (s : Bool) (A : Option Addr) (n c : Nat) (z : Int) : Prop := BB w g s A n c ∧ BigAt w s A n c z
theorem BN.below {w w' : World} {g : Nat} {s : Bool} {A : Option Addr} {n c : Nat} {z : Int} (h : BN w g s A n c z) (hb : Below w.heap.size w w') : BN w' g s A n c z := ⟨h.1.below hb, h.2.below hb⟩
theorem BN.new {w : World} {s : Bool} {A : Option Addr} {n c : Nat} {z : Int} (h : BigAt w s A n c z) (t : TypeId) : BN (w.alloc (.cells #[.bool s, .slice A n c] t)) w.heap.size s A n c z := ⟨BB.new _ _ _ _ _ _, h.alloc _⟩
theorem BN.put {w : World} {g B : Nat} {s s' : Bool} {A A' : Option Addr} {n n' c c' : Nat} {z' : Int} (h : BB w g s A n c) (hz : BigAt w s' A' n' c' z') (hf : Fr B A' n') (hg : g < B) : BN ((w.setCell ⟨g, 0, none⟩ (.bool s')).setCell ⟨g, 1, none⟩ (.slice A' n' c')) g s' A' n' c' z' :=
  ⟨h.set2 s' A' n' c', (hz.far (p := ⟨g, 0, none⟩) (fun b o hA hn => by have := hf b o hA hn; show b ≠ g; omega) _).far (p := ⟨g, 1, none⟩) (fun b o hA hn => by have := hf b o hA hn; show b ≠ g; omega) _⟩
theorem BN.far {w : World} {g : Nat} {s : Bool} {A : Option Addr} {n c : Nat} {z : Int} (h : BN w g s A n c z) {w0 : World} (h0 : BN w0 g s A n c z) (hb : Below w0.heap.size w0 w) {p : Addr} (hp : w0.heap.size ≤ p.block) (v : Value) : BN (w.setCell p v) g s A n c z := h0.below (Below.setCell hb hp v)
end
section
theorem live27a : covR true [⟨1, 3, 1000⟩] [⟨1, 0, 10⟩] 50 = (77, 0) := by decide
theorem live27b : covR false [⟨1, 3, 1000⟩] [⟨1, 0, 10⟩] 0 = (30, 0) := by decide
theorem live27o : OkM [⟨1, 3, 1000⟩] := by intro g hg; rw [List.mem_singleton.1 hg]; decide
theorem lives27_any (w : World) : Calls Tryz.prog 8 #[] w fun e w' => e = .returned (.bool true) ∧ Below w.heap.size w w' := by
  have hB0 := since_alloc (Below.refl _ w) (.cells #[.int .i64 1, .int .i64 3, .int .i64 1000] 63)
  have r0 : Sl (w.alloc (.cells #[.int .i64 1, .int .i64 3, .int .i64 1000] 63)) (some ⟨w.heap.size, 0, none⟩) (rc Ax.cells [⟨1, 3, 1000⟩]) := Sl.new_ w (rc Ax.cells [⟨1, 3, 1000⟩]) 63
  have hp : ∀ g ∈ [(⟨1, 3, 1000⟩ : Ax)], In64 g.price := fun g hg => by rw [List.mem_singleton.1 hg]; show In64 3; unfold In64; omega
  have hq : ∀ g ∈ [(⟨1, 0, 10⟩ : Lt)], In64 g.qty := fun g hg => by rw [List.mem_singleton.1 hg]; show In64 10; unfold In64; omega
  have HV := Lib.hid (fun LA V h1 h2 => cvalue_any (some ⟨w.heap.size, 0, none⟩) 1 [⟨1, 3, 1000⟩] LA 1 [⟨1, 0, 10⟩] 50 V (by simp) (by simp) live27o hp hq (by unfold In64; omega) h1 h2)
  have HW := Lib.hid (fun LA V h1 h2 => cworth_any (some ⟨w.heap.size, 0, none⟩) 1 [⟨1, 3, 1000⟩] LA 1 [⟨1, 0, 10⟩] V (by simp) (by simp) live27o hp hq h1 h2)
  rw [live27a] at HV
  rw [live27b] at HW
  simp only [List.length_cons, List.length_nil] at HV HW
  have HS := Lib.hid r0
  clear r0 hp hq
  go_enter Tryz.func8, Tryz.ntmps8
  go_upto_region 2 with fail
  generalize hYY : w.alloc (.cells #[.int .i64 1, .int .i64 3, .int .i64 1000] 63) = Y at *
  clear hYY
  go_wp2_with fail
  refine (HV.out _ _ (HS.out.alloc _) (Sl.new_ Y (rc Lt.cells [⟨1, 0, 10⟩]) 33)).mono ?_
  rintro e w1 ⟨rfl, hb⟩
  have hb := since_step (since_alloc (Below.refl _ Y) (.cells #[.int .i64 1, .int .i64 0, .int .i64 10] 33)) hb
  have hB1 := since_step hB0 hb
  have HS := Lib.hid (HS.out.below hb)
  clear hb
  go_wp2_with fail
  refine (HW.out _ _ (HS.out.alloc _) (Sl.new_ w1 (rc Lt.cells [⟨1, 0, 10⟩]) 33)).mono ?_
  rintro e w2 ⟨rfl, hb⟩
  have hB2 := since_step (since_alloc hB1 _) hb
  go_wp2_with fail
  go_ret
  exact ⟨rfl, hB2⟩
theorem rd_axrow {w : World} {r : List Value} (h : Rd w (.cat (.int .i64) (.cat (.int .i64) (.cat (.int .i64) .nil))) r) : ∃ g : Ax, r = g.cells ∧ In64 g.id := by
  obtain ⟨p, q, rfl, ⟨a, rfl, ha⟩, ⟨p2, q2, rfl, ⟨b, rfl, _⟩, ⟨p3, q3, rfl, ⟨c, rfl, _⟩, rfl⟩⟩⟩ := h
  exact ⟨⟨a, b, c⟩, rfl, bd_i64 ha⟩
end
section
theorem unC_law {id mem kind : Int} {L : List Nt} (h : okC id mem kind L) : (if kind = 3 ∨ kind = 4 then unL id kind L else [⟨id, 0⟩]) = nuL id kind L := by
  unfold nuL
  by_cases h2 : kind = 2
  · rw [if_pos h2, if_neg (by omega)]
  · rw [if_neg h2]
    by_cases h3 : kind = 3 ∨ kind = 4
    · rw [if_pos h3]
    · rw [if_neg h3]
      have hk : kind = 1 := by
        unfold okC at h
        omega
      unfold unL
      rw [if_pos hk]
theorem out_at (ex : Cn → Un → Int × Int) (acs : List Cn) {k j : Nat} (hk : k < acs.length) (hj : j < (unC acs[k]).length) (hn : (ex acs[k] (unC acs[k])[j]).1 < 0) :
    ∃ h : (outA ex (acs.take k) ++ outG ex acs[k] ((unC acs[k]).take j)).length < (outA ex acs).length, (outA ex acs)[(outA ex (acs.take k) ++ outG ex acs[k] ((unC acs[k]).take j)).length] = ⟨(unC acs[k])[j].ac, (unC acs[k])[j].cl, (ex acs[k] (unC acs[k])[j]).1⟩ := by
  have h1 : ∃ r1, outA ex acs = outA ex (acs.take (k + 1)) ++ r1 := ⟨outA ex (acs.drop (k + 1)), by
    unfold outA
    rw [← List.flatMap_append, List.take_append_drop]⟩
  have h2 : ∃ r2, outG ex acs[k] (unC acs[k]) = outG ex acs[k] ((unC acs[k]).take (j + 1)) ++ r2 := ⟨outG ex acs[k] ((unC acs[k]).drop (j + 1)), by
    unfold outG
    rw [← List.filterMap_append, List.take_append_drop]⟩
  obtain ⟨r1, h1⟩ := h1
  obtain ⟨r2, h2⟩ := h2
  have h3 := outG_snoc ex acs[k] (unC acs[k]) hj
  rw [if_pos hn] at h3
  have h4 : outA ex acs = (outA ex (acs.take k) ++ outG ex acs[k] ((unC acs[k]).take j)) ++ (⟨(unC acs[k])[j].ac, (unC acs[k])[j].cl, (ex acs[k] (unC acs[k])[j]).1⟩ :: (r2 ++ r1)) := by
    rw [h1, outA_snoc ex acs hk, h2, h3]
    simp
  generalize outA ex (acs.take k) ++ outG ex acs[k] ((unC acs[k]).take j) = X at *
  generalize outA ex acs = Y at *
  subst h4
  exact ⟨by simp, by simp⟩
theorem rd_fwrow27 {w : World} {r : List Value} (h : Rd w (.cat (.cat (.int .i64) (.cat (.int .i64) .nil)) (.cat (.int .i64) .nil)) r) : ∃ g : Fw, r = g.cells ∧ In64 g.amt := by
  obtain ⟨p, q, rfl, ⟨p1, q1, rfl, ⟨a, rfl, _⟩, ⟨p2, q2, rfl, ⟨c, rfl, _⟩, rfl⟩⟩, ⟨p3, q3, rfl, ⟨m, rfl, hm⟩, rfl⟩⟩ := h
  exact ⟨⟨a, c, m⟩, rfl, bd_i64 hm⟩
theorem rd_side {w : World} {a : Array Value} (h : Rd w (.cat (.sl (.cat (.int .i64) (.cat (.int .i64) (.cat (.int .i64) .nil)))) (.cat (.sl (.cat (.int .i64) (.cat (.int .i64) (.cat (.int .i64) (.cat (.int .i64) (.cat (.sl (.int .i64)) .nil)))))) (.cat (.sl (.cat (.cat (.int .i64) (.cat (.int .i64) .nil)) (.cat (.sl (.cat (.int .i64) (.cat (.int .i64) .nil))) .nil))) (.cat (.sl (.cat (.cat (.int .i64) (.cat (.int .i64) .nil)) (.cat (.int .i64) .nil))) (.cat (.sl (.cat (.cat (.int .i64) (.cat (.int .i64) .nil)) (.cat (.sl (.cat (.int .i64) (.cat (.int .i64) (.cat (.int .i64) .nil)))) .nil))) .nil))))) a.toList) :
    ∃ (aA : Option Addr) (ac : Nat) (al : List Ax) (iA : Option Addr) (ic : Nat) (li : List Iq) (pA : Option Addr) (pc : Nat) (lp : List Po) (fA : Option Addr) (fc : Nat) (fl : List Fw) (hA : Option Addr) (hc : Nat) (lh : List Hd),
      a = #[.slice aA al.length ac, .slice iA li.length ic, .slice pA lp.length pc, .slice fA fl.length fc, .slice hA lh.length hc] ∧ Sl w aA (rc Ax.cells al) ∧ Sl w iA (rc Iq.cells li) ∧ (∀ g ∈ li, ∃ i : Ins, GI w g i) ∧ Sl w pA (rc Po.cells lp) ∧ (∀ g ∈ lp, InK w g) ∧ Sl w fA (rc Fw.cells fl) ∧ fl.length ≤ fc ∧ fc ≤ maxLen ∧ (∀ x ∈ fl, In64 x.amt) ∧ Sl w hA (rc Hd.cells lh) ∧ ∀ g ∈ lh, Hq.InH w g := by
  obtain ⟨r1, q1, e, h1, ⟨r2, q2, rfl, h2, ⟨r3, q3, rfl, h3, ⟨r4, q4, rfl, h4, ⟨r5, q5, rfl, h5, rfl⟩⟩⟩⟩⟩ := h
  obtain ⟨A1, n1, c1, rows1, rfl, _⟩ := _root_.id h1
  obtain ⟨A2, n2, c2, rows2, rfl, _⟩ := _root_.id h2
  obtain ⟨A3, n3, c3, rows3, rfl, _⟩ := _root_.id h3
  obtain ⟨A4, n4, c4, rows4, rfl, _⟩ := _root_.id h4
  obtain ⟨A5, n5, c5, rows5, rfl, _⟩ := _root_.id h5
  obtain ⟨l1, rfl, _, _, s1, _⟩ := rd_rowsP (f := Ax.cells) (fun r => rd_axrow) h1
  obtain ⟨l2, rfl, _, _, s2, g2⟩ := rd_rowsP (f := Iq.cells) (fun r => rd_insrow) h2
  obtain ⟨l3, rfl, _, _, s3, g3⟩ := rd_rowsP (f := Po.cells) (fun r => rd_posk) h3
  obtain ⟨l4, rfl, k4, m4, s4, g4⟩ := rd_rowsP (f := Fw.cells) (fun r => rd_fwrow27) h4
  obtain ⟨l5, rfl, _, _, s5, g5⟩ := rd_rowsP (f := Hd.cells) (fun r => Hq.rd_hold) h5
  refine ⟨A1, c1, l1, A2, c2, l2, A3, c3, l3, A4, c4, l4, A5, c5, l5, ?_, s1, s2, g2, s3, g3, s4, k4, m4, g4, s5, g5⟩
  cases a
  simpa using e
end
end Go.Proofs.YtmjndpkfhdoljaaGreat
