import Derived.Test.YtlbccpiadmcpjaaCv05
import Derived.Test.YtlbccpiadmcpjaaCv10
import Derived.Test.YtlbccpiadmcpjaaCv11
import Derived.Test.YtlbccpiadmcpjaaCv16
import Derived.Test.YtlbccpiadmcpjaaCv17
import Derived.Test.YtlbccpiadmcpjaaCv13
section
namespace Go.Proofs.Ytlbccpiadmcpjaa
open Go.ChangeShapes Go.WideShapes Go.ChangeAt Go.RowKit
set_option linter.unusedVariables false
set_option linter.unusedSimpArgs false

def worthV (a : Ast) (q : Int) : Int := if okA a then fV (q * a.price) else 0
def worthE (a : Ast) (q : Int) : Int := if okA a then fE (q * a.price) else 2
set_option maxRecDepth 100000 in
set_option maxHeartbeats 4000000 in
theorem worth_any (a : Ast) (q : Int) (w : World) (hq : In64 q) (hp : In64 a.price) :
    Calls Try.prog 34 #[astV a, .int .i64 q] w fun e w' => e = .returned (.tuple #[.int .i64 (worthV a q), .int .i64 (worthE a q)]) ∧ Below w.heap.size w w' := by
  have HC := fun W => acheck_any a W
  have hB0 := since_alloc (Below.refl _ w) (.cells #[.int .i64 a.id, .int .i64 a.price, .int .i64 a.hc] 63)
  have HX0 := Lib.hid (AB.new w a 63)
  unfold astV at HC
  by_cases hok : okA a
  · rw [if_pos hok] at HC
    rw [show worthV a q = fV (q * a.price) from if_pos hok, show worthE a q = fE (q * a.price) from if_pos hok]
    have HC := Lib.hid HC
    have HM := Lib.hid (fun w => wmul_any q a.price hq hp w)
    have HI := Lib.hid (fun w => int_any (q * a.price) (mul_in128 hq hp) w)
    clear hok hq hp
    generalize q * a.price = z at *
    unfold astV
    go_enter Try.func34, Try.ntmps34
    go_wp2_with fail
    refine (HC.out _).mono ?_
    rintro e w1 ⟨rfl, hb1⟩
    have X1 := HX0.out.below hb1
    have hB1 := since_step hB0 hb1
    clear hb1 hB0
    obtain ⟨x0, x1, x2, x3⟩ := _root_.id X1
    go_wp2_with fail
    refine (HM.out _).mono ?_
    rintro e w2 ⟨rfl, hb2⟩
    have hB2 := since_step hB1 hb2
    clear hb2 hB1
    go_wp2_with fail
    refine (HI.out _).mono ?_
    rintro e w3 ⟨rfl, hb3⟩
    have hB3 := since_step hB2 hb3
    go_wp2_with fail
    go_ret2
    exact ⟨rfl, hB3⟩
  · rw [if_neg hok] at HC
    rw [show worthV a q = 0 from if_neg hok, show worthE a q = 2 from if_neg hok]
    have HC := Lib.hid HC
    clear hok
    unfold astV
    go_enter Try.func34, Try.ntmps34
    go_wp2_with fail
    refine (HC.out _).mono ?_
    rintro e w1 ⟨rfl, hb1⟩
    have hB1 := since_step hB0 hb1
    go_wp2_with fail
    go_ret2
    exact ⟨rfl, hB1⟩
def countV (a : Ast) (q : Int) : Int := if okA a ∧ 0 ≤ q ∧ In64 (q * a.price) then q * a.price * (10000 - a.hc) / 10000 else 0
def countE (a : Ast) (q : Int) : Int := if okA a ∧ 0 ≤ q then fE (q * a.price) else 2
theorem count_rng {a : Ast} {z : Int} (h : okA a) (hz : 0 ≤ z) : 0 ≤ z * (10000 - a.hc) / 10000 ∧ z * (10000 - a.hc) / 10000 ≤ z := by
  obtain ⟨_, _, _, h4, h5⟩ := h
  have h1 : 0 ≤ z * (10000 - a.hc) := Int.mul_nonneg hz (by omega)
  have h2 : z * (10000 - a.hc) ≤ z * 10000 := Int.mul_le_mul_of_nonneg_left (by omega) hz
  omega
set_option maxRecDepth 100000 in
set_option maxHeartbeats 4000000 in
theorem count_any (a : Ast) (q : Int) (w : World) (hq : In64 q) (hp : In64 a.price) :
    Calls Try.prog 25 #[astV a, .int .i64 q] w fun e w' => e = .returned (.tuple #[.int .i64 (countV a q), .int .i64 (countE a q)]) ∧ Below w.heap.size w w' := by
  have HC := fun W => acheck_any a W
  have HW := fun W => worth_any a q W hq hp
  have hB0 := since_alloc (Below.refl _ w) (.cells #[.int .i64 a.id, .int .i64 a.price, .int .i64 a.hc] 63)
  have HX0 := Lib.hid (AB.new w a 63)
  unfold astV at HC HW
  by_cases hok : okA a
  · rw [if_pos hok] at HC
    rw [show worthV a q = fV (q * a.price) from if_pos hok, show worthE a q = fE (q * a.price) from if_pos hok] at HW
    have HC := Lib.hid HC
    by_cases hq0 : 0 ≤ q
    · have hz0 : 0 ≤ q * a.price := Int.mul_nonneg hq0 hok.2.2.1.1
      rw [show countE a q = fE (q * a.price) from if_pos ⟨hok, hq0⟩]
      by_cases h64 : In64 (q * a.price)
      · rw [show countV a q = q * a.price * (10000 - a.hc) / 10000 from if_pos ⟨hok, hq0, h64⟩, show fE (q * a.price) = 0 from if_pos h64]
        rw [show fV (q * a.price) = q * a.price from if_pos h64, show fE (q * a.price) = 0 from if_pos h64] at HW
        have hrg := count_rng hok hz0
        have hh : 0 ≤ a.hc ∧ a.hc ≤ 10000 := hok.2.2.2
        have hfin : In64 (10000 - a.hc) := by unfold In64; omega
        have hqn : In64 (q * a.price * (10000 - a.hc) / 10000) := by unfold In64 at *; omega
        have HSC := fun W => fscale_pos (q * a.price) (10000 - a.hc) 10000 h64 hfin (by omega) (by omega) W
        rw [show sV (q * a.price * (10000 - a.hc)) 10000 = q * a.price * (10000 - a.hc) / 10000 from if_pos hqn, show sE (q * a.price * (10000 - a.hc)) 10000 = 0 from if_pos hqn, show ((10000 : Nat) : Int) = 10000 from rfl] at HSC
        have HSC := Lib.hid HSC
        have HW := Lib.hid HW
        unfold In64 at hfin
        clear hok hz0 h64 hrg hqn hq hp
        generalize sR (q * a.price * (10000 - a.hc)) 10000 = rr at *
        generalize q * a.price * (10000 - a.hc) / 10000 = cc at *
        generalize q * a.price = z at *
        unfold astV
        go_enter Try.func25, Try.ntmps25
        go_wp2_with fail
        refine (HC.out _).mono ?_
        rintro e w1 ⟨rfl, hb1⟩
        have X1 := HX0.out.below hb1
        have hB1 := since_step hB0 hb1
        clear hb1 hB0
        obtain ⟨x0, x1, x2, x3⟩ := _root_.id X1
        go_wp2_with fail
        refine (HW.out _).mono ?_
        rintro e w2 ⟨rfl, hb2⟩
        have X2 := X1.below hb2
        have hB2 := since_step hB1 hb2
        clear hb2 hB1 x0 x1 x2 x3 X1
        obtain ⟨x0, x1, x2, x3⟩ := _root_.id X2
        go_wp2_with fail
        refine (HSC.out _).mono ?_
        rintro e w3 ⟨rfl, hb3⟩
        have hB3 := since_step hB2 hb3
        go_wp2_with fail
        go_ret2
        exact ⟨rfl, hB3⟩
      · rw [show countV a q = 0 from if_neg fun h => h64 h.2.2, show fE (q * a.price) = 7 from if_neg h64]
        rw [show fV (q * a.price) = 0 from if_neg h64, show fE (q * a.price) = 7 from if_neg h64] at HW
        have HW := Lib.hid HW
        clear hok hz0 h64 hq hp
        unfold astV
        go_enter Try.func25, Try.ntmps25
        go_wp2_with fail
        refine (HC.out _).mono ?_
        rintro e w1 ⟨rfl, hb1⟩
        have X1 := HX0.out.below hb1
        have hB1 := since_step hB0 hb1
        clear hb1 hB0
        obtain ⟨x0, x1, x2, x3⟩ := _root_.id X1
        go_wp2_with fail
        refine (HW.out _).mono ?_
        rintro e w2 ⟨rfl, hb2⟩
        have hB2 := since_step hB1 hb2
        go_wp2_with fail
        go_ret2
        exact ⟨rfl, hB2⟩
    · rw [show countE a q = 2 from if_neg fun h => hq0 h.2, show countV a q = 0 from if_neg fun h => hq0 h.2.1]
      clear hok hq hp HW
      unfold astV
      go_enter Try.func25, Try.ntmps25
      go_wp2_with fail
      refine (HC.out _).mono ?_
      rintro e w1 ⟨rfl, hb1⟩
      have hB1 := since_step hB0 hb1
      go_wp2_with fail
      go_ret2
      exact ⟨rfl, hB1⟩
  · rw [if_neg hok] at HC
    rw [show countE a q = 2 from if_neg fun h => hok h.1, show countV a q = 0 from if_neg fun h => hok h.1]
    have HC := Lib.hid HC
    clear hok hq hp HW
    unfold astV
    go_enter Try.func25, Try.ntmps25
    go_wp2_with fail
    refine (HC.out _).mono ?_
    rintro e w1 ⟨rfl, hb1⟩
    have hB1 := since_step hB0 hb1
    go_wp2_with fail
    go_ret2
    exact ⟨rfl, hB1⟩
end Go.Proofs.Ytlbccpiadmcpjaa
end
section
namespace Go.Proofs.Ytlbccpiadmcpjaa
open Go.ChangeShapes Go.WideShapes Go.ChangeAt Go.RowKit
set_option linter.unusedVariables false
set_option linter.unusedSimpArgs false

structure HeldA (W V : World) (gi gr : Nat) (a : Ast) : Prop where
  bel : Below gr W V
  le : W.heap.size ≤ V.heap.size
  lt : gr < V.heap.size
  i0 : V.cell? ⟨gi, 0, none⟩ = some (.int .i64 a.id)
  i1 : V.cell? ⟨gi, 1, none⟩ = some (.int .i64 a.price)
  i2 : V.cell? ⟨gi, 2, none⟩ = some (.int .i64 a.hc)
  e0 : ∃ v, V.cell? ⟨gr, 0, none⟩ = some v
  e1 : ∃ v, V.cell? ⟨gr, 1, none⟩ = some v
  f0 : V.frozen? ⟨gr, 0, none⟩ = false
  f1 : V.frozen? ⟨gr, 1, none⟩ = false
section
variable {W V V' : World} {gi gr : Nat} {a : Ast}
theorem HeldA.step (h : HeldA W V gi gr a) (hb : Below V.heap.size V V') : HeldA W V' gi gr a := by
  have hc : ∀ p u, V.cell? p = some u → V'.cell? p = some u := fun p u e => (hb.cell (World.block_lt_of_cell? _ _ e)).trans e
  exact ⟨h.bel.trans (hb.mono (Nat.le_of_lt h.lt)), Nat.le_trans h.le hb.size, Nat.lt_of_lt_of_le h.lt hb.size, hc _ _ h.i0, hc _ _ h.i1, hc _ _ h.i2, h.e0.imp fun v e => hc _ _ e, h.e1.imp fun v e => hc _ _ e,
    (hb.frozen (p := ⟨gr, 0, none⟩) h.lt).trans h.f0, (hb.frozen (p := ⟨gr, 1, none⟩) h.lt).trans h.f1⟩
theorem HeldA.start (hI : AB W gi a) (hB : BB W gr false none 0 0) : HeldA W W.drew gi gr a :=
  ⟨(Below.refl gr W).drew, Nat.le_refl _, hB.1, hI.2.1, hI.2.2.1, hI.2.2.2, ⟨_, hB.2.1⟩, ⟨_, hB.2.2.1⟩, hB.2.2.2.1, hB.2.2.2.2⟩
theorem HeldA.set (h : HeldA W V gi gr a) (hne : gi ≠ gr) (u v : Value) : HeldA W ((V.setCell ⟨gr, 0, none⟩ u).setCell ⟨gr, 1, none⟩ v) gi gr a := by
  obtain ⟨v0, h0⟩ := h.e0
  obtain ⟨v1, h1⟩ := h.e1
  have hne' : ¬ gr = gi := fun e => hne e.symm
  refine ⟨Below.setCell (Below.setCell h.bel (by simp) _) (by simp) _, by simpa using h.le, by simpa using h.lt, ?_, ?_, ?_, ?_, ?_, ?_, ?_⟩
  · simp [cell_set, hne', h.i0]
  · simp [cell_set, hne', h.i1]
  · simp [cell_set, hne', h.i2]
  · exact ⟨u, by simp [cell_set, h0, h1]⟩
  · exact ⟨v, by simp [cell_set, h0, h1]⟩
  · simpa using h.f0
  · simpa using h.f1
theorem HeldA.got (h : HeldA W V gi gr a) (s : Bool) (B : Option Addr) (m d : Nat) :
    ((V.setCell ⟨gr, 0, none⟩ (.bool s)).setCell ⟨gr, 1, none⟩ (.slice B m d)).cell? ⟨gr, 0, none⟩ = some (.bool s) ∧ ((V.setCell ⟨gr, 0, none⟩ (.bool s)).setCell ⟨gr, 1, none⟩ (.slice B m d)).cell? ⟨gr, 1, none⟩ = some (.slice B m d) := by
  obtain ⟨v0, h0⟩ := h.e0
  obtain ⟨v1, h1⟩ := h.e1
  exact ⟨by simp [cell_set, h0, h1], by simp [cell_set, h0, h1]⟩
end

set_option maxRecDepth 100000 in
set_option maxHeartbeats 8000000 in
theorem rworth_any (a : Ast) (q : Int) (w : World) (hq : In64 q) (hp : In64 a.price) :
    Calls Try.prog 29 #[astV a, .int .i64 q] w fun e w' => bigR w w' e (q * a.price) ∧ Below w.heap.size w w' := by
  have hB0 := since_alloc (Below.refl _ w) (.cells #[.int .i64 a.id, .int .i64 a.price, .int .i64 a.hc] 63)
  have hI0 := AB.new w a 63
  have hB1 := since_alloc hB0 (.cells #[.bool false, .slice none 0 0] 69)
  have hI1 := hI0.below ((Below.refl _ _).alloc (Nat.le_refl _) (.cells #[.bool false, .slice none 0 0] 69))
  have hT1 := BB.new (w.alloc (.cells #[.int .i64 a.id, .int .i64 a.price, .int .i64 a.hc] 63)) false none 0 0 69
  rw [World.size_alloc] at hT1
  have HQ := Lib.hid hq
  have HP := Lib.hid hp
  clear hI0 hB0 hq hp
  unfold astV
  go_enter Try.func29, Try.ntmps29
  go_upto_region 1 with fail
  generalize ((w.alloc (.cells #[.int .i64 a.id, .int .i64 a.price, .int .i64 a.hc] 63)).alloc (.cells #[.bool false, .slice none 0 0] 69)) = W at *
  have hne : w.heap.size ≠ w.heap.size + 1 := by omega
  have hgl : w.heap.size + 1 < W.heap.size := hT1.1
  refine wp_region_held_drew (S := (fun V => HeldA W V w.heap.size (w.heap.size + 1) a)) (by kernel_rfl) (by exact HeldA.start hI1 hT1) (fun hHeld => ?_)
  refine tkZ (i := 0) (oi := ⟨some 5, _, _, _, _, _⟩) (v := ?_) rfl (by kernel_rfl) (fun _ _ _ h => h) (Or.inl ⟨by rfl, ?_⟩) hHeld ?_
  rotate_left
  · (intro w hSw; obtain ⟨o1, o2, o3, o4, o5, o6, ⟨x0, o9⟩, ⟨x1, o10⟩, o11, o12⟩ := hSw; go_simp <;> with_reducible rfl)
  try simp only [pqZ]
  refine tkZ (i := 2) (oi := ⟨some 7, _, _, _, _, _⟩) (v := ?_) rfl (by kernel_rfl) (fun _ _ _ h => h) (Or.inl ⟨by rfl, ?_⟩) hHeld ?_
  rotate_left
  · (intro w hSw; obtain ⟨o1, o2, o3, o4, o5, o6, ⟨x0, o9⟩, ⟨x1, o10⟩, o11, o12⟩ := hSw; go_simp <;> with_reducible rfl)
  try simp only [pqZ]
  refine tkZ (i := 3) (oi := ⟨some 8, _, _, _, _, _⟩) (v := ?_) rfl (by kernel_rfl) (fun _ _ _ h => h) (Or.inl ⟨by rfl, ?_⟩) hHeld ?_
  rotate_left
  · (intro w hSw; obtain ⟨o1, o2, o3, o4, o5, o6, ⟨x0, o9⟩, ⟨x1, o10⟩, o11, o12⟩ := hSw; go_simp <;> with_reducible rfl)
  try simp only [pqZ]
  refine wpAnyH_ready (rs := [1]) (by kernel_rfl) (by simp) ?_
  refine AllReadyH.cons (o := ⟨some 6, _, _, _, _, _⟩) rfl (fun K hK => ?_) AllReadyH.nil
  go_simp
  (refine (bof_any q _ HQ.out).mono ?_; rintro e u1 ⟨⟨t1, B1, m1, d1, rfl, hq1, Y1⟩, hk1⟩; have hKeep := HeldA.step hHeld hk1; have M1 := Y1.l64 HQ.out)
  go_wp2_with fail
  refine hK.out _ _ (by (try dsimp only); exact hKeep) (fun hHeld => ?_)
  clear hK K hKeep
  try simp only [pqZ]
  refine wpAnyH_ready (rs := [4]) (by kernel_rfl) (by simp) ?_
  refine AllReadyH.cons (o := ⟨some 9, _, _, _, _, _⟩) rfl (fun K hK => ?_) AllReadyH.nil
  go_simp
  (refine (bof_any a.price _ HP.out).mono ?_; rintro e u2 ⟨⟨t2, B2, m2, d2, rfl, hq2, Y2⟩, hk2⟩; have hKeep := HeldA.step hHeld hk2; have Y1 := Y1.below hk2; have M2 := Y2.l64 HP.out)
  go_wp2_with fail
  refine hK.out _ _ (by (try dsimp only); exact hKeep) (fun hHeld => ?_)
  clear hK K hKeep
  try simp only [pqZ]
  refine wpAnyH_ready (rs := [5]) (by kernel_rfl) (by simp) ?_
  refine AllReadyH.cons (o := ⟨some 10, _, _, _, _, _⟩) rfl (fun K hK => ?_) AllReadyH.nil
  go_simp
  (refine (bmul_any q a.price _ _ _ _ _ _ _ _ _ (by omega) (by omega) Y1 Y2).mono ?_; rintro e u3 ⟨⟨t3, B3, m3, d3, rfl, hq3, Y3⟩, hk3⟩; have hKeep := HeldA.step hHeld hk3; have hsz6 := hHeld.lt; have hle6 := hHeld.le; have hH7 := hKeep)
  go_wp2_with fail
  refine hK.out _ _ (by (try dsimp only); exact hKeep) (fun hHeld => ?_)
  clear hK K hKeep
  try simp only [pqZ]
  refine wpAnyH_ready (rs := [6]) (by kernel_rfl) (by simp) ?_
  refine AllReadyH.cons (o := ⟨none, _, _, _, _, _⟩) rfl (fun K hK => ?_) AllReadyH.nil
  have hHd := hHeld
  obtain ⟨o1, o2, o3, o4, o5, o6, ⟨x0, o9⟩, ⟨x1, o10⟩, o11, o12⟩ := hHd
  (have hKeep := HeldA.set hHeld hne (.bool t3) (.slice B3 m3 d3))
  go_simp
  refine hK.out _ _ (by (try dsimp only); exact hKeep) (fun hHeld => ?_)
  clear hK K hKeep
  try simp only [pqZ]
  refine wpAnyH_done (by kernel_rfl) ?_ _
  have hgot := HeldA.got hH7 t3 B3 m3 d3
  have hBW : Below w.heap.size w u3 := hB1.trans (hH7.bel.mono (by omega))
  have hW7 := hH7.le
  clear hHeld
  go_wp2_with fail
  refine bodyPost_ret (v := .agg #[.bool t3, .slice B3 m3 d3]) ?_ rfl ?_
  · simp [results, Try.results29, go_sem, hgot.1, hgot.2]
  · refine ⟨⟨t3, B3, m3, d3, rfl, hq3.le (by have := hB1.size; omega) (Nat.le_refl _), ?_⟩, ?_⟩
    · exact (Y3.far (fun b o hA h0 => by have h9 := hq3 b o hA h0; simp; omega) _).far (fun b o hA h0 => by have h9 := hq3 b o hA h0; simp; omega) _
    · refine Below.setCell (Below.setCell hBW ?_ _) ?_ _ <;> first | (simp; done) | (simp; omega)
end Go.Proofs.Ytlbccpiadmcpjaa
end
