import Derived.IntWalk
import Derived.Test.YtlbccpiadmcpjaaCv17
import Derived.Test.YtlbccpiadmcpjaaCv18
section
namespace Go.Proofs.Ytlbccpiadmcpjaa
open Go.ChangeShapes Go.WideShapes Go.ChangeAt Go.RowKit
set_option linter.unusedVariables false
set_option linter.unusedSimpArgs false

theorem HeldA.setFar {W V : World} {gi gr g : Nat} {a : Ast} (h : HeldA W V gi gr a) (hg : gr < g) (hi : gi < gr) (u v : Value) : HeldA W ((V.setCell ⟨g, 0, none⟩ u).setCell ⟨g, 1, none⟩ v) gi gr a := by
  have n1 : ¬ g = gi := by omega
  have n2 : ¬ g = gr := by omega
  obtain ⟨v0, h0⟩ := h.e0
  obtain ⟨v1, h1⟩ := h.e1
  refine ⟨Below.setCell (Below.setCell h.bel (by simp; omega) _) (by simp; omega) _, by simpa using h.le, by simpa using h.lt, ?_, ?_, ?_, ?_, ?_, ?_, ?_⟩
  · simp [cell_set, n1, h.i0]
  · simp [cell_set, n1, h.i1]
  · simp [cell_set, n1, h.i2]
  · exact ⟨v0, by simp [cell_set, n2, h0]⟩
  · exact ⟨v1, by simp [cell_set, n2, h1]⟩
  · simpa using h.f0
  · simpa using h.f1
set_option maxRecDepth 100000 in
set_option maxHeartbeats 4000000 in
theorem rcount_any (a : Ast) (q : Int) (w : World) (hq : In64 q) (hok : okA a) :
    Calls Try.prog 31 #[astV a, .int .i64 q] w fun e w' => bigR w w' e (q * a.price * (10000 - a.hc) / 10000) ∧ Below w.heap.size w w' := by
  have hB0 := since_alloc (Below.refl _ w) (.cells #[.int .i64 a.id, .int .i64 a.price, .int .i64 a.hc] 63)
  have hI0 := AB.new w a 63
  have hB1 := since_alloc hB0 (.cells #[.bool false, .slice none 0 0] 69)
  have hI1 := hI0.below ((Below.refl _ _).alloc (Nat.le_refl _) (.cells #[.bool false, .slice none 0 0] 69))
  have hT1 := BB.new (w.alloc (.cells #[.int .i64 a.id, .int .i64 a.price, .int .i64 a.hc] 63)) false none 0 0 69
  rw [World.size_alloc] at hT1
  have hpp := hok.2.2.1
  have hhc := hok.2.2.2
  have hp : In64 a.price := by unfold In64; omega
  have HRW := Lib.hid (fun W => rworth_any a q W hq hp)
  have HL := Lib.hid (fun (W : World) (s' : Bool) (A : Option Addr) (n c : Nat) (h : BigAt W s' A n c (q * a.price)) => show n ≤ 128 from h.len.2 (by
    have h1 : q.natAbs < 2 ^ 64 := by unfold In64 at hq; simp; omega
    have h2 : a.price.natAbs < 2 ^ 64 := by simp; omega
    rw [Int.natAbs_mul, show (2 : Nat) ^ 128 = 2 ^ 64 * 2 ^ 64 from by decide]
    exact Nat.mul_lt_mul'' h1 h2))
  have HH := Lib.hid (show In64 (10000 - a.hc) by unfold In64; omega)
  have HWR := Lib.hid (show IntKind.i64.wrap (10000 - a.hc) = 10000 - a.hc from IntWalk.i64_in _ (by omega))
  have hdv := fun (s : Bool) (A : Option Addr) (n c : Nat) (V : World) (la : n ≤ 10000) (hx : BigAt V s A n c (q * a.price * (10000 - a.hc))) => bdiv_any (q * a.price * (10000 - a.hc)) s A n c 10000 V la (by decide) (by decide) hx
  rw [show ((10000 : Nat) : Int) = 10000 from rfl] at hdv
  have HDV := Lib.hid hdv
  clear hI0 hB0 hq hp hok hpp hhc hdv
  unfold astV at *
  go_enter Try.func31, Try.ntmps31
  go_upto_region 1 with fail
  generalize ((w.alloc (.cells #[.int .i64 a.id, .int .i64 a.price, .int .i64 a.hc] 63)).alloc (.cells #[.bool false, .slice none 0 0] 69)) = W at *
  have hne : w.heap.size ≠ w.heap.size + 1 := by omega
  have hgl : w.heap.size + 1 < W.heap.size := hT1.1
  refine wp_region_held_drew (S := (fun V => HeldA W V w.heap.size (w.heap.size + 1) a)) (by kernel_rfl) (by exact HeldA.start hI1 hT1) (fun hHeld => ?_)
  refine tkZ (i := 0) (oi := ⟨some 8, _, _, _, _, _⟩) (v := ?_) rfl (by kernel_rfl) (fun _ _ _ h => h) (Or.inl ⟨by rfl, ?_⟩) hHeld ?_
  rotate_left
  · (intro w hSw; obtain ⟨o1, o2, o3, o4, o5, o6, ⟨x0, o9⟩, ⟨x1, o10⟩, o11, o12⟩ := hSw; go_simp <;> with_reducible rfl)
  try simp only [pqZ]
  refine tkZ (i := 1) (oi := ⟨some 9, _, _, _, _, _⟩) (v := ?_) rfl (by kernel_rfl) (fun _ _ _ h => h) (Or.inl ⟨by rfl, ?_⟩) hHeld ?_
  rotate_left
  · (intro w hSw; obtain ⟨o1, o2, o3, o4, o5, o6, ⟨x0, o9⟩, ⟨x1, o10⟩, o11, o12⟩ := hSw; go_simp <;> with_reducible rfl)
  try simp only [pqZ]
  refine tkZ (i := 3) (oi := ⟨some 11, _, _, _, _, _⟩) (v := ?_) rfl (by kernel_rfl) (fun _ _ _ h => h) (Or.inl ⟨by rfl, ?_⟩) hHeld ?_
  rotate_left
  · (intro w hSw; obtain ⟨o1, o2, o3, o4, o5, o6, ⟨x0, o9⟩, ⟨x1, o10⟩, o11, o12⟩ := hSw; go_simp <;> with_reducible rfl)
  try simp only [pqZ]
  refine tkZ (i := 4) (oi := ⟨some 12, _, _, _, _, _⟩) (v := ?_) rfl (by kernel_rfl) (fun _ _ _ h => h) (Or.inl ⟨by rfl, ?_⟩) hHeld ?_
  rotate_left
  · (intro w hSw; obtain ⟨o1, o2, o3, o4, o5, o6, ⟨x0, o9⟩, ⟨x1, o10⟩, o11, o12⟩ := hSw; go_simp <;> with_reducible rfl)
  try simp only [pqZ]
  refine tkZ (i := 5) (oi := ⟨some 13, _, _, _, _, _⟩) (v := ?_) rfl (by kernel_rfl) (fun _ _ _ h => h) (Or.inl ⟨by rfl, ?_⟩) hHeld ?_
  rotate_left
  · (intro w hSw; obtain ⟨o1, o2, o3, o4, o5, o6, ⟨x0, o9⟩, ⟨x1, o10⟩, o11, o12⟩ := hSw; go_simp <;> with_reducible rfl)
  try simp only [pqZ]
  refine wpAnyH_ready (rs := [2, 12]) (by kernel_rfl) (by simp) ?_
  refine AllReadyH.cons (o := ⟨some 10, _, _, _, _, _⟩) rfl (fun K hK => ?_) (AllReadyH.cons (o := ⟨some 5, _, _, _, _, _⟩) rfl (fun K hK => ?_) AllReadyH.nil)
  · go_simp
    (refine (HRW.out _).mono ?_; rintro e u1 ⟨⟨t1, B1, m1, d1, rfl, hq1, Y1⟩, hk1⟩; have hKeep := HeldA.step hHeld hk1; have M1 := HL.out _ _ _ _ _ Y1)
    go_wp2_with fail
    refine hK.out _ _ (by (try dsimp only); exact hKeep) (fun hHeld => ?_)
    clear hK K hKeep
    try simp only [pqZ]
    refine wpAnyH_ready (rs := [6, 12]) (by kernel_rfl) (by simp) ?_
    refine AllReadyH.cons (o := ⟨some 14, _, _, _, _, _⟩) rfl (fun K hK => ?_) (AllReadyH.cons (o := ⟨some 5, _, _, _, _, _⟩) rfl (fun K hK => ?_) AllReadyH.nil)
    · go_simp
      ((try rw [HWR.out]); refine (bof_any (10000 - a.hc) _ HH.out).mono ?_; rintro e u2 ⟨⟨t2, B2, m2, d2, rfl, hq2, Y2⟩, hk2⟩; have hKeep := HeldA.step hHeld hk2; have Y1 := Y1.below hk2; have M2 := Y2.l64 HH.out)
      go_wp2_with fail
      refine hK.out _ _ (by (try dsimp only); exact hKeep) (fun hHeld => ?_)
      clear hK K hKeep
      try simp only [pqZ]
      refine wpAnyH_ready (rs := [7, 12]) (by kernel_rfl) (by simp) ?_
      refine AllReadyH.cons (o := ⟨some 15, _, _, _, _, _⟩) rfl (fun K hK => ?_) (AllReadyH.cons (o := ⟨some 5, _, _, _, _, _⟩) rfl (fun K hK => ?_) AllReadyH.nil)
      · go_simp
        (refine (bmul_any (q * a.price) (10000 - a.hc) _ _ _ _ _ _ _ _ _ (by omega) (by omega) Y1 Y2).mono ?_; rintro e u3 ⟨⟨t3, B3, m3, d3, rfl, hq3, Y3⟩, hk3⟩; have hKeep := HeldA.step hHeld hk3; have M3 : m3 ≤ 200 := (by have := len_mul Y1 Y2 Y3; omega))
        go_wp2_with fail
        refine hK.out _ _ (by (try dsimp only); exact hKeep) (fun hHeld => ?_)
        clear hK K hKeep
        try simp only [pqZ]
        refine wpAnyH_ready (rs := [8, 12]) (by kernel_rfl) (by simp) ?_
        refine AllReadyH.cons (o := ⟨some 16, _, _, _, _, _⟩) rfl (fun K hK => ?_) (AllReadyH.cons (o := ⟨some 5, _, _, _, _, _⟩) rfl (fun K hK => ?_) AllReadyH.nil)
        · go_simp
          (refine (HDV.out _ _ _ _ _ (by omega) Y3).mono ?_; rintro e u4 ⟨⟨t4, B4, m4, d4, rfl, hq4, Y4⟩, hk4⟩; have hKeep := HeldA.step hHeld hk4; have hsz6 := hHeld.lt; have hle6 := hHeld.le; have hH7 := hKeep)
          go_wp2_with fail
          refine hK.out _ _ (by (try dsimp only); exact hKeep) (fun hHeld => ?_)
          clear hK K hKeep
          try simp only [pqZ]
          refine tkZ (i := 9) (oi := ⟨some 7, _, _, _, _, _⟩) (v := ?_) rfl (by kernel_rfl) (fun _ _ _ h => h) (Or.inl ⟨by rfl, ?_⟩) hHeld ?_
          rotate_left
          · (intro w hSw; obtain ⟨o1, o2, o3, o4, o5, o6, ⟨x0, o9⟩, ⟨x1, o10⟩, o11, o12⟩ := hSw; go_simp <;> with_reducible rfl)
          try simp only [pqZ]
          refine tkZ (i := 10) (oi := ⟨some 17, _, _, _, _, _⟩) (v := ?_) rfl (by kernel_rfl) (fun _ _ _ h => h) (Or.inl ⟨by rfl, ?_⟩) hHeld ?_
          rotate_left
          · (intro w hSw; obtain ⟨o1, o2, o3, o4, o5, o6, ⟨x0, o9⟩, ⟨x1, o10⟩, o11, o12⟩ := hSw; go_simp <;> with_reducible rfl)
          try simp only [pqZ]
          refine tkZ (i := 11) (oi := ⟨some 18, _, _, _, _, _⟩) (v := ?_) rfl (by kernel_rfl) (fun _ _ _ h => h) (Or.inl ⟨by rfl, ?_⟩) hHeld ?_
          rotate_left
          · (intro w hSw; obtain ⟨o1, o2, o3, o4, o5, o6, ⟨x0, o9⟩, ⟨x1, o10⟩, o11, o12⟩ := hSw; go_simp <;> with_reducible rfl)
          try simp only [pqZ]
          refine wpAnyH_ready (rs := [12]) (by kernel_rfl) (by simp) ?_
          refine AllReadyH.cons (o := ⟨some 5, _, _, _, _, _⟩) rfl (fun K hK => ?_) AllReadyH.nil
          have hHd := hHeld
          obtain ⟨o1, o2, o3, o4, o5, o6, ⟨x0, o9⟩, ⟨x1, o10⟩, o11, o12⟩ := hHd
          (have hKeep := HeldA.step hHeld (since_alloc (Below.refl _ u4) (.cells #[.bool false, .slice none 0 0] 69)))
          go_simp
          refine hK.out _ _ (by (try dsimp only); exact hKeep) (fun hHeld => ?_)
          clear hK K hKeep
          try simp only [pqZ]
          refine wpAnyH_ready (rs := [13]) (by kernel_rfl) (by simp) ?_
          refine AllReadyH.cons (o := ⟨none, _, _, _, _, _⟩) rfl (fun K hK => ?_) AllReadyH.nil
          have hHd := hHeld
          obtain ⟨o1, o2, o3, o4, o5, o6, ⟨x0, o9⟩, ⟨x1, o10⟩, o11, o12⟩ := hHd
          (have hb5 := since_alloc (Below.refl u4.heap.size u4) (.cells #[.bool t4, .slice B4 m4 d4] 69); have P6 := BB.new u4 t4 B4 m4 d4 69; have hKeep := HeldA.step hH7 hb5; have Y5 := Y4.below hb5)
          go_simp
          refine hK.out _ _ (by (try dsimp only); exact hKeep) (fun hHeld => ?_)
          clear hK K hKeep
          try simp only [pqZ]
          refine tkZ (i := 14) (oi := ⟨some 6, _, _, _, _, _⟩) (v := ?_) rfl (by kernel_rfl) (fun _ _ _ h => h) (Or.inl ⟨by rfl, ?_⟩) hHeld ?_
          rotate_left
          · (intro w hSw; obtain ⟨o1, o2, o3, o4, o5, o6, ⟨x0, o9⟩, ⟨x1, o10⟩, o11, o12⟩ := hSw; go_simp <;> with_reducible rfl)
          try simp only [pqZ]
          refine wpAnyH_done (by kernel_rfl) ?_ _
          have hW7 := hHeld.le
          have hu4 : w.heap.size + 1 < u4.heap.size := hH7.lt
          have hBW : Below w.heap.size w _ := hB1.trans (hHeld.bel.mono (by omega))
          have hgot := HeldA.got hHeld t4 B4 m4 d4
          generalize u4.alloc (.cells #[.bool t4, .slice B4 m4 d4] 69) = u5 at *
          obtain ⟨p0, p1, p2, p3, p4⟩ := _root_.id P6
          obtain ⟨o1, o2, o3, o4, o5, o6, ⟨x0, o9⟩, ⟨x1, o10⟩, o11, o12⟩ := _root_.id hHeld
          have hcs := @cell_set
          go_wp2_with fail
          refine bodyPost_ret (v := .agg #[.bool t4, .slice B4 m4 d4]) ?_ rfl ?_
          · simp [results, Try.results31, go_sem, hgot.1, hgot.2]
          · refine ⟨⟨t4, B4, m4, d4, rfl, hq4.le (by have := hB1.size; omega) (Nat.le_refl _), ?_⟩, ?_⟩
            · exact (Y5.far (fun b o hA h0 => by have h9 := hq4 b o hA h0; simp; omega) _).far (fun b o hA h0 => by have h9 := hq4 b o hA h0; simp; omega) _
            · refine Below.setCell (Below.setCell hBW ?_ _) ?_ _ <;> first | (simp; done) | (simp; omega)
        · have hHd := hHeld
          obtain ⟨o1, o2, o3, o4, o5, o6, ⟨x0, o9⟩, ⟨x1, o10⟩, o11, o12⟩ := hHd
          (have hA := since_alloc (Below.refl u3.heap.size u3) (.cells #[.bool false, .slice none 0 0] 69); have hKeep := HeldA.step hHeld hA; have P := BB.new u3 false none 0 0 69; have hga := hHeld.lt; have hgW := hHeld.le; have Y3 := Y3.below hA; skip)
          go_simp
          refine hK.out _ _ (by (try dsimp only); exact hKeep) (fun hHeld => ?_)
          clear hK K hKeep
          try simp only [pqZ]
          refine wpAnyH_ready (rs := [8]) (by kernel_rfl) (by simp) ?_
          refine AllReadyH.cons (o := ⟨some 16, _, _, _, _, _⟩) rfl (fun K hK => ?_) AllReadyH.nil
          go_simp
          (have hgb := P.1; refine (HDV.out _ _ _ _ _ (by omega) Y3).mono ?_; rintro e u4 ⟨⟨t4, B4, m4, d4, rfl, hq4, Y4⟩, hk4⟩; have hKeep := HeldA.step hHeld hk4; have P := P.below hk4; have hsz6 := hHeld.lt; have hle6 := hHeld.le; have hH7 := hKeep)
          go_wp2_with fail
          refine hK.out _ _ (by (try dsimp only); exact hKeep) (fun hHeld => ?_)
          clear hK K hKeep
          try simp only [pqZ]
          refine tkZ (i := 9) (oi := ⟨some 7, _, _, _, _, _⟩) (v := ?_) rfl (by kernel_rfl) (fun _ _ _ h => h) (Or.inl ⟨by rfl, ?_⟩) hHeld ?_
          rotate_left
          · (intro w hSw; obtain ⟨o1, o2, o3, o4, o5, o6, ⟨x0, o9⟩, ⟨x1, o10⟩, o11, o12⟩ := hSw; go_simp <;> with_reducible rfl)
          try simp only [pqZ]
          refine tkZ (i := 10) (oi := ⟨some 17, _, _, _, _, _⟩) (v := ?_) rfl (by kernel_rfl) (fun _ _ _ h => h) (Or.inl ⟨by rfl, ?_⟩) hHeld ?_
          rotate_left
          · (intro w hSw; obtain ⟨o1, o2, o3, o4, o5, o6, ⟨x0, o9⟩, ⟨x1, o10⟩, o11, o12⟩ := hSw; go_simp <;> with_reducible rfl)
          try simp only [pqZ]
          refine tkZ (i := 11) (oi := ⟨some 18, _, _, _, _, _⟩) (v := ?_) rfl (by kernel_rfl) (fun _ _ _ h => h) (Or.inl ⟨by rfl, ?_⟩) hHeld ?_
          rotate_left
          · (intro w hSw; obtain ⟨o1, o2, o3, o4, o5, o6, ⟨x0, o9⟩, ⟨x1, o10⟩, o11, o12⟩ := hSw; go_simp <;> with_reducible rfl)
          try simp only [pqZ]
          refine wpAnyH_ready (rs := [13]) (by kernel_rfl) (by simp) ?_
          refine AllReadyH.cons (o := ⟨none, _, _, _, _, _⟩) rfl (fun K hK => ?_) AllReadyH.nil
          have hHd := hHeld
          obtain ⟨o1, o2, o3, o4, o5, o6, ⟨x0, o9⟩, ⟨x1, o10⟩, o11, o12⟩ := hHd
          ((try rw [World.size_drew] at P hgb hga); obtain ⟨p0, p1, p2, p3, p4⟩ := _root_.id P; have P6 := P.set2 t4 B4 m4 d4; have hKeep := HeldA.setFar hHeld (g := u3.heap.size) (by omega) (by omega) (.bool t4) (.slice B4 m4 d4); have Y5 := (Y4.far (p := ⟨u3.heap.size, 0, none⟩) (fun b o hA h0 => by have h9 := hq4 b o hA h0; simp; omega) (.bool t4)).far (p := ⟨u3.heap.size, 1, none⟩) (fun b o hA h0 => by have h9 := hq4 b o hA h0; simp; omega) (.slice B4 m4 d4))
          go_simp
          refine hK.out _ _ (by (try dsimp only); exact hKeep) (fun hHeld => ?_)
          clear hK K hKeep
          try simp only [pqZ]
          refine tkZ (i := 14) (oi := ⟨some 6, _, _, _, _, _⟩) (v := ?_) rfl (by kernel_rfl) (fun _ _ _ h => h) (Or.inl ⟨by rfl, ?_⟩) hHeld ?_
          rotate_left
          · (intro w hSw; obtain ⟨o1, o2, o3, o4, o5, o6, ⟨x0, o9⟩, ⟨x1, o10⟩, o11, o12⟩ := hSw; go_simp <;> with_reducible rfl)
          try simp only [pqZ]
          refine wpAnyH_done (by kernel_rfl) ?_ _
          have hW7 := hHeld.le
          have hu4 : w.heap.size + 1 < u4.heap.size := hH7.lt
          have hBW : Below w.heap.size w _ := hB1.trans (hHeld.bel.mono (by omega))
          have hgot := HeldA.got hHeld t4 B4 m4 d4
          generalize (u4.setCell ⟨u3.heap.size, 0, none⟩ (.bool t4)).setCell ⟨u3.heap.size, 1, none⟩ (.slice B4 m4 d4) = u5 at *
          obtain ⟨p0, p1, p2, p3, p4⟩ := _root_.id P6
          obtain ⟨o1, o2, o3, o4, o5, o6, ⟨x0, o9⟩, ⟨x1, o10⟩, o11, o12⟩ := _root_.id hHeld
          have hcs := @cell_set
          go_wp2_with fail
          refine bodyPost_ret (v := .agg #[.bool t4, .slice B4 m4 d4]) ?_ rfl ?_
          · simp [results, Try.results31, go_sem, hgot.1, hgot.2]
          · refine ⟨⟨t4, B4, m4, d4, rfl, hq4.le (by have := hB1.size; omega) (Nat.le_refl _), ?_⟩, ?_⟩
            · exact (Y5.far (fun b o hA h0 => by have h9 := hq4 b o hA h0; simp; omega) _).far (fun b o hA h0 => by have h9 := hq4 b o hA h0; simp; omega) _
            · refine Below.setCell (Below.setCell hBW ?_ _) ?_ _ <;> first | (simp; done) | (simp; omega)
      · have hHd := hHeld
        obtain ⟨o1, o2, o3, o4, o5, o6, ⟨x0, o9⟩, ⟨x1, o10⟩, o11, o12⟩ := hHd
        (have hA := since_alloc (Below.refl u2.heap.size u2) (.cells #[.bool false, .slice none 0 0] 69); have hKeep := HeldA.step hHeld hA; have P := BB.new u2 false none 0 0 69; have hga := hHeld.lt; have hgW := hHeld.le; have Y1 := Y1.below hA; have Y2 := Y2.below hA; skip)
        go_simp
        refine hK.out _ _ (by (try dsimp only); exact hKeep) (fun hHeld => ?_)
        clear hK K hKeep
        try simp only [pqZ]
        refine wpAnyH_ready (rs := [7]) (by kernel_rfl) (by simp) ?_
        refine AllReadyH.cons (o := ⟨some 15, _, _, _, _, _⟩) rfl (fun K hK => ?_) AllReadyH.nil
        go_simp
        (refine (bmul_any (q * a.price) (10000 - a.hc) _ _ _ _ _ _ _ _ _ (by omega) (by omega) Y1 Y2).mono ?_; rintro e u3 ⟨⟨t3, B3, m3, d3, rfl, hq3, Y3⟩, hk3⟩; have hKeep := HeldA.step hHeld hk3; have P := P.below hk3; have M3 : m3 ≤ 200 := (by have := len_mul Y1 Y2 Y3; omega))
        go_wp2_with fail
        refine hK.out _ _ (by (try dsimp only); exact hKeep) (fun hHeld => ?_)
        clear hK K hKeep
        try simp only [pqZ]
        refine wpAnyH_ready (rs := [8]) (by kernel_rfl) (by simp) ?_
        refine AllReadyH.cons (o := ⟨some 16, _, _, _, _, _⟩) rfl (fun K hK => ?_) AllReadyH.nil
        go_simp
        (have hgb := P.1; refine (HDV.out _ _ _ _ _ (by omega) Y3).mono ?_; rintro e u4 ⟨⟨t4, B4, m4, d4, rfl, hq4, Y4⟩, hk4⟩; have hKeep := HeldA.step hHeld hk4; have P := P.below hk4; have hsz6 := hHeld.lt; have hle6 := hHeld.le; have hH7 := hKeep)
        go_wp2_with fail
        refine hK.out _ _ (by (try dsimp only); exact hKeep) (fun hHeld => ?_)
        clear hK K hKeep
        try simp only [pqZ]
        refine tkZ (i := 9) (oi := ⟨some 7, _, _, _, _, _⟩) (v := ?_) rfl (by kernel_rfl) (fun _ _ _ h => h) (Or.inl ⟨by rfl, ?_⟩) hHeld ?_
        rotate_left
        · (intro w hSw; obtain ⟨o1, o2, o3, o4, o5, o6, ⟨x0, o9⟩, ⟨x1, o10⟩, o11, o12⟩ := hSw; go_simp <;> with_reducible rfl)
        try simp only [pqZ]
        refine tkZ (i := 10) (oi := ⟨some 17, _, _, _, _, _⟩) (v := ?_) rfl (by kernel_rfl) (fun _ _ _ h => h) (Or.inl ⟨by rfl, ?_⟩) hHeld ?_
        rotate_left
        · (intro w hSw; obtain ⟨o1, o2, o3, o4, o5, o6, ⟨x0, o9⟩, ⟨x1, o10⟩, o11, o12⟩ := hSw; go_simp <;> with_reducible rfl)
        try simp only [pqZ]
        refine tkZ (i := 11) (oi := ⟨some 18, _, _, _, _, _⟩) (v := ?_) rfl (by kernel_rfl) (fun _ _ _ h => h) (Or.inl ⟨by rfl, ?_⟩) hHeld ?_
        rotate_left
        · (intro w hSw; obtain ⟨o1, o2, o3, o4, o5, o6, ⟨x0, o9⟩, ⟨x1, o10⟩, o11, o12⟩ := hSw; go_simp <;> with_reducible rfl)
        try simp only [pqZ]
        refine wpAnyH_ready (rs := [13]) (by kernel_rfl) (by simp) ?_
        refine AllReadyH.cons (o := ⟨none, _, _, _, _, _⟩) rfl (fun K hK => ?_) AllReadyH.nil
        have hHd := hHeld
        obtain ⟨o1, o2, o3, o4, o5, o6, ⟨x0, o9⟩, ⟨x1, o10⟩, o11, o12⟩ := hHd
        ((try rw [World.size_drew] at P hgb hga); obtain ⟨p0, p1, p2, p3, p4⟩ := _root_.id P; have P6 := P.set2 t4 B4 m4 d4; have hKeep := HeldA.setFar hHeld (g := u2.heap.size) (by omega) (by omega) (.bool t4) (.slice B4 m4 d4); have Y5 := (Y4.far (p := ⟨u2.heap.size, 0, none⟩) (fun b o hA h0 => by have h9 := hq4 b o hA h0; simp; omega) (.bool t4)).far (p := ⟨u2.heap.size, 1, none⟩) (fun b o hA h0 => by have h9 := hq4 b o hA h0; simp; omega) (.slice B4 m4 d4))
        go_simp
        refine hK.out _ _ (by (try dsimp only); exact hKeep) (fun hHeld => ?_)
        clear hK K hKeep
        try simp only [pqZ]
        refine tkZ (i := 14) (oi := ⟨some 6, _, _, _, _, _⟩) (v := ?_) rfl (by kernel_rfl) (fun _ _ _ h => h) (Or.inl ⟨by rfl, ?_⟩) hHeld ?_
        rotate_left
        · (intro w hSw; obtain ⟨o1, o2, o3, o4, o5, o6, ⟨x0, o9⟩, ⟨x1, o10⟩, o11, o12⟩ := hSw; go_simp <;> with_reducible rfl)
        try simp only [pqZ]
        refine wpAnyH_done (by kernel_rfl) ?_ _
        have hW7 := hHeld.le
        have hu4 : w.heap.size + 1 < u4.heap.size := hH7.lt
        have hBW : Below w.heap.size w _ := hB1.trans (hHeld.bel.mono (by omega))
        have hgot := HeldA.got hHeld t4 B4 m4 d4
        generalize (u4.setCell ⟨u2.heap.size, 0, none⟩ (.bool t4)).setCell ⟨u2.heap.size, 1, none⟩ (.slice B4 m4 d4) = u5 at *
        obtain ⟨p0, p1, p2, p3, p4⟩ := _root_.id P6
        obtain ⟨o1, o2, o3, o4, o5, o6, ⟨x0, o9⟩, ⟨x1, o10⟩, o11, o12⟩ := _root_.id hHeld
        have hcs := @cell_set
        go_wp2_with fail
        refine bodyPost_ret (v := .agg #[.bool t4, .slice B4 m4 d4]) ?_ rfl ?_
        · simp [results, Try.results31, go_sem, hgot.1, hgot.2]
        · refine ⟨⟨t4, B4, m4, d4, rfl, hq4.le (by have := hB1.size; omega) (Nat.le_refl _), ?_⟩, ?_⟩
          · exact (Y5.far (fun b o hA h0 => by have h9 := hq4 b o hA h0; simp; omega) _).far (fun b o hA h0 => by have h9 := hq4 b o hA h0; simp; omega) _
          · refine Below.setCell (Below.setCell hBW ?_ _) ?_ _ <;> first | (simp; done) | (simp; omega)
    · have hHd := hHeld
      obtain ⟨o1, o2, o3, o4, o5, o6, ⟨x0, o9⟩, ⟨x1, o10⟩, o11, o12⟩ := hHd
      (have hA := since_alloc (Below.refl u1.heap.size u1) (.cells #[.bool false, .slice none 0 0] 69); have hKeep := HeldA.step hHeld hA; have P := BB.new u1 false none 0 0 69; have hga := hHeld.lt; have hgW := hHeld.le; have Y1 := Y1.below hA; skip)
      go_simp
      refine hK.out _ _ (by (try dsimp only); exact hKeep) (fun hHeld => ?_)
      clear hK K hKeep
      try simp only [pqZ]
      refine wpAnyH_ready (rs := [6]) (by kernel_rfl) (by simp) ?_
      refine AllReadyH.cons (o := ⟨some 14, _, _, _, _, _⟩) rfl (fun K hK => ?_) AllReadyH.nil
      go_simp
      ((try rw [HWR.out]); refine (bof_any (10000 - a.hc) _ HH.out).mono ?_; rintro e u2 ⟨⟨t2, B2, m2, d2, rfl, hq2, Y2⟩, hk2⟩; have hKeep := HeldA.step hHeld hk2; have P := P.below hk2; have Y1 := Y1.below hk2; have M2 := Y2.l64 HH.out)
      go_wp2_with fail
      refine hK.out _ _ (by (try dsimp only); exact hKeep) (fun hHeld => ?_)
      clear hK K hKeep
      try simp only [pqZ]
      refine wpAnyH_ready (rs := [7]) (by kernel_rfl) (by simp) ?_
      refine AllReadyH.cons (o := ⟨some 15, _, _, _, _, _⟩) rfl (fun K hK => ?_) AllReadyH.nil
      go_simp
      (refine (bmul_any (q * a.price) (10000 - a.hc) _ _ _ _ _ _ _ _ _ (by omega) (by omega) Y1 Y2).mono ?_; rintro e u3 ⟨⟨t3, B3, m3, d3, rfl, hq3, Y3⟩, hk3⟩; have hKeep := HeldA.step hHeld hk3; have P := P.below hk3; have M3 : m3 ≤ 200 := (by have := len_mul Y1 Y2 Y3; omega))
      go_wp2_with fail
      refine hK.out _ _ (by (try dsimp only); exact hKeep) (fun hHeld => ?_)
      clear hK K hKeep
      try simp only [pqZ]
      refine wpAnyH_ready (rs := [8]) (by kernel_rfl) (by simp) ?_
      refine AllReadyH.cons (o := ⟨some 16, _, _, _, _, _⟩) rfl (fun K hK => ?_) AllReadyH.nil
      go_simp
      (have hgb := P.1; refine (HDV.out _ _ _ _ _ (by omega) Y3).mono ?_; rintro e u4 ⟨⟨t4, B4, m4, d4, rfl, hq4, Y4⟩, hk4⟩; have hKeep := HeldA.step hHeld hk4; have P := P.below hk4; have hsz6 := hHeld.lt; have hle6 := hHeld.le; have hH7 := hKeep)
      go_wp2_with fail
      refine hK.out _ _ (by (try dsimp only); exact hKeep) (fun hHeld => ?_)
      clear hK K hKeep
      try simp only [pqZ]
      refine tkZ (i := 9) (oi := ⟨some 7, _, _, _, _, _⟩) (v := ?_) rfl (by kernel_rfl) (fun _ _ _ h => h) (Or.inl ⟨by rfl, ?_⟩) hHeld ?_
      rotate_left
      · (intro w hSw; obtain ⟨o1, o2, o3, o4, o5, o6, ⟨x0, o9⟩, ⟨x1, o10⟩, o11, o12⟩ := hSw; go_simp <;> with_reducible rfl)
      try simp only [pqZ]
      refine tkZ (i := 10) (oi := ⟨some 17, _, _, _, _, _⟩) (v := ?_) rfl (by kernel_rfl) (fun _ _ _ h => h) (Or.inl ⟨by rfl, ?_⟩) hHeld ?_
      rotate_left
      · (intro w hSw; obtain ⟨o1, o2, o3, o4, o5, o6, ⟨x0, o9⟩, ⟨x1, o10⟩, o11, o12⟩ := hSw; go_simp <;> with_reducible rfl)
      try simp only [pqZ]
      refine tkZ (i := 11) (oi := ⟨some 18, _, _, _, _, _⟩) (v := ?_) rfl (by kernel_rfl) (fun _ _ _ h => h) (Or.inl ⟨by rfl, ?_⟩) hHeld ?_
      rotate_left
      · (intro w hSw; obtain ⟨o1, o2, o3, o4, o5, o6, ⟨x0, o9⟩, ⟨x1, o10⟩, o11, o12⟩ := hSw; go_simp <;> with_reducible rfl)
      try simp only [pqZ]
      refine wpAnyH_ready (rs := [13]) (by kernel_rfl) (by simp) ?_
      refine AllReadyH.cons (o := ⟨none, _, _, _, _, _⟩) rfl (fun K hK => ?_) AllReadyH.nil
      have hHd := hHeld
      obtain ⟨o1, o2, o3, o4, o5, o6, ⟨x0, o9⟩, ⟨x1, o10⟩, o11, o12⟩ := hHd
      ((try rw [World.size_drew] at P hgb hga); obtain ⟨p0, p1, p2, p3, p4⟩ := _root_.id P; have P6 := P.set2 t4 B4 m4 d4; have hKeep := HeldA.setFar hHeld (g := u1.heap.size) (by omega) (by omega) (.bool t4) (.slice B4 m4 d4); have Y5 := (Y4.far (p := ⟨u1.heap.size, 0, none⟩) (fun b o hA h0 => by have h9 := hq4 b o hA h0; simp; omega) (.bool t4)).far (p := ⟨u1.heap.size, 1, none⟩) (fun b o hA h0 => by have h9 := hq4 b o hA h0; simp; omega) (.slice B4 m4 d4))
      go_simp
      refine hK.out _ _ (by (try dsimp only); exact hKeep) (fun hHeld => ?_)
      clear hK K hKeep
      try simp only [pqZ]
      refine tkZ (i := 14) (oi := ⟨some 6, _, _, _, _, _⟩) (v := ?_) rfl (by kernel_rfl) (fun _ _ _ h => h) (Or.inl ⟨by rfl, ?_⟩) hHeld ?_
      rotate_left
      · (intro w hSw; obtain ⟨o1, o2, o3, o4, o5, o6, ⟨x0, o9⟩, ⟨x1, o10⟩, o11, o12⟩ := hSw; go_simp <;> with_reducible rfl)
      try simp only [pqZ]
      refine wpAnyH_done (by kernel_rfl) ?_ _
      have hW7 := hHeld.le
      have hu4 : w.heap.size + 1 < u4.heap.size := hH7.lt
      have hBW : Below w.heap.size w _ := hB1.trans (hHeld.bel.mono (by omega))
      have hgot := HeldA.got hHeld t4 B4 m4 d4
      generalize (u4.setCell ⟨u1.heap.size, 0, none⟩ (.bool t4)).setCell ⟨u1.heap.size, 1, none⟩ (.slice B4 m4 d4) = u5 at *
      obtain ⟨p0, p1, p2, p3, p4⟩ := _root_.id P6
      obtain ⟨o1, o2, o3, o4, o5, o6, ⟨x0, o9⟩, ⟨x1, o10⟩, o11, o12⟩ := _root_.id hHeld
      have hcs := @cell_set
      go_wp2_with fail
      refine bodyPost_ret (v := .agg #[.bool t4, .slice B4 m4 d4]) ?_ rfl ?_
      · simp [results, Try.results31, go_sem, hgot.1, hgot.2]
      · refine ⟨⟨t4, B4, m4, d4, rfl, hq4.le (by have := hB1.size; omega) (Nat.le_refl _), ?_⟩, ?_⟩
        · exact (Y5.far (fun b o hA h0 => by have h9 := hq4 b o hA h0; simp; omega) _).far (fun b o hA h0 => by have h9 := hq4 b o hA h0; simp; omega) _
        · refine Below.setCell (Below.setCell hBW ?_ _) ?_ _ <;> first | (simp; done) | (simp; omega)
  · have hHd := hHeld
    obtain ⟨o1, o2, o3, o4, o5, o6, ⟨x0, o9⟩, ⟨x1, o10⟩, o11, o12⟩ := hHd
    (have hA := since_alloc (Below.refl W.drew.heap.size W.drew) (.cells #[.bool false, .slice none 0 0] 69); have hKeep := HeldA.step hHeld hA; have P := BB.new W.drew false none 0 0 69; have hga := hHeld.lt; have hgW := hHeld.le; skip)
    go_simp
    refine hK.out _ _ (by (try dsimp only); exact hKeep) (fun hHeld => ?_)
    clear hK K hKeep
    try simp only [pqZ]
    refine wpAnyH_ready (rs := [2]) (by kernel_rfl) (by simp) ?_
    refine AllReadyH.cons (o := ⟨some 10, _, _, _, _, _⟩) rfl (fun K hK => ?_) AllReadyH.nil
    go_simp
    (refine (HRW.out _).mono ?_; rintro e u1 ⟨⟨t1, B1, m1, d1, rfl, hq1, Y1⟩, hk1⟩; have hKeep := HeldA.step hHeld hk1; have P := P.below hk1; have M1 := HL.out _ _ _ _ _ Y1)
    go_wp2_with fail
    refine hK.out _ _ (by (try dsimp only); exact hKeep) (fun hHeld => ?_)
    clear hK K hKeep
    try simp only [pqZ]
    refine wpAnyH_ready (rs := [6]) (by kernel_rfl) (by simp) ?_
    refine AllReadyH.cons (o := ⟨some 14, _, _, _, _, _⟩) rfl (fun K hK => ?_) AllReadyH.nil
    go_simp
    ((try rw [HWR.out]); refine (bof_any (10000 - a.hc) _ HH.out).mono ?_; rintro e u2 ⟨⟨t2, B2, m2, d2, rfl, hq2, Y2⟩, hk2⟩; have hKeep := HeldA.step hHeld hk2; have P := P.below hk2; have Y1 := Y1.below hk2; have M2 := Y2.l64 HH.out)
    go_wp2_with fail
    refine hK.out _ _ (by (try dsimp only); exact hKeep) (fun hHeld => ?_)
    clear hK K hKeep
    try simp only [pqZ]
    refine wpAnyH_ready (rs := [7]) (by kernel_rfl) (by simp) ?_
    refine AllReadyH.cons (o := ⟨some 15, _, _, _, _, _⟩) rfl (fun K hK => ?_) AllReadyH.nil
    go_simp
    (refine (bmul_any (q * a.price) (10000 - a.hc) _ _ _ _ _ _ _ _ _ (by omega) (by omega) Y1 Y2).mono ?_; rintro e u3 ⟨⟨t3, B3, m3, d3, rfl, hq3, Y3⟩, hk3⟩; have hKeep := HeldA.step hHeld hk3; have P := P.below hk3; have M3 : m3 ≤ 200 := (by have := len_mul Y1 Y2 Y3; omega))
    go_wp2_with fail
    refine hK.out _ _ (by (try dsimp only); exact hKeep) (fun hHeld => ?_)
    clear hK K hKeep
    try simp only [pqZ]
    refine wpAnyH_ready (rs := [8]) (by kernel_rfl) (by simp) ?_
    refine AllReadyH.cons (o := ⟨some 16, _, _, _, _, _⟩) rfl (fun K hK => ?_) AllReadyH.nil
    go_simp
    (have hgb := P.1; refine (HDV.out _ _ _ _ _ (by omega) Y3).mono ?_; rintro e u4 ⟨⟨t4, B4, m4, d4, rfl, hq4, Y4⟩, hk4⟩; have hKeep := HeldA.step hHeld hk4; have P := P.below hk4; have hsz6 := hHeld.lt; have hle6 := hHeld.le; have hH7 := hKeep)
    go_wp2_with fail
    refine hK.out _ _ (by (try dsimp only); exact hKeep) (fun hHeld => ?_)
    clear hK K hKeep
    try simp only [pqZ]
    refine tkZ (i := 9) (oi := ⟨some 7, _, _, _, _, _⟩) (v := ?_) rfl (by kernel_rfl) (fun _ _ _ h => h) (Or.inl ⟨by rfl, ?_⟩) hHeld ?_
    rotate_left
    · (intro w hSw; obtain ⟨o1, o2, o3, o4, o5, o6, ⟨x0, o9⟩, ⟨x1, o10⟩, o11, o12⟩ := hSw; go_simp <;> with_reducible rfl)
    try simp only [pqZ]
    refine tkZ (i := 10) (oi := ⟨some 17, _, _, _, _, _⟩) (v := ?_) rfl (by kernel_rfl) (fun _ _ _ h => h) (Or.inl ⟨by rfl, ?_⟩) hHeld ?_
    rotate_left
    · (intro w hSw; obtain ⟨o1, o2, o3, o4, o5, o6, ⟨x0, o9⟩, ⟨x1, o10⟩, o11, o12⟩ := hSw; go_simp <;> with_reducible rfl)
    try simp only [pqZ]
    refine tkZ (i := 11) (oi := ⟨some 18, _, _, _, _, _⟩) (v := ?_) rfl (by kernel_rfl) (fun _ _ _ h => h) (Or.inl ⟨by rfl, ?_⟩) hHeld ?_
    rotate_left
    · (intro w hSw; obtain ⟨o1, o2, o3, o4, o5, o6, ⟨x0, o9⟩, ⟨x1, o10⟩, o11, o12⟩ := hSw; go_simp <;> with_reducible rfl)
    try simp only [pqZ]
    refine wpAnyH_ready (rs := [13]) (by kernel_rfl) (by simp) ?_
    refine AllReadyH.cons (o := ⟨none, _, _, _, _, _⟩) rfl (fun K hK => ?_) AllReadyH.nil
    have hHd := hHeld
    obtain ⟨o1, o2, o3, o4, o5, o6, ⟨x0, o9⟩, ⟨x1, o10⟩, o11, o12⟩ := hHd
    ((try rw [World.size_drew] at P hgb hga); obtain ⟨p0, p1, p2, p3, p4⟩ := _root_.id P; have P6 := P.set2 t4 B4 m4 d4; have hKeep := HeldA.setFar hHeld (g := W.heap.size) (by omega) (by omega) (.bool t4) (.slice B4 m4 d4); have Y5 := (Y4.far (p := ⟨W.heap.size, 0, none⟩) (fun b o hA h0 => by have h9 := hq4 b o hA h0; simp; omega) (.bool t4)).far (p := ⟨W.heap.size, 1, none⟩) (fun b o hA h0 => by have h9 := hq4 b o hA h0; simp; omega) (.slice B4 m4 d4))
    go_simp
    refine hK.out _ _ (by (try dsimp only); exact hKeep) (fun hHeld => ?_)
    clear hK K hKeep
    try simp only [pqZ]
    refine tkZ (i := 14) (oi := ⟨some 6, _, _, _, _, _⟩) (v := ?_) rfl (by kernel_rfl) (fun _ _ _ h => h) (Or.inl ⟨by rfl, ?_⟩) hHeld ?_
    rotate_left
    · (intro w hSw; obtain ⟨o1, o2, o3, o4, o5, o6, ⟨x0, o9⟩, ⟨x1, o10⟩, o11, o12⟩ := hSw; go_simp <;> with_reducible rfl)
    try simp only [pqZ]
    refine wpAnyH_done (by kernel_rfl) ?_ _
    have hW7 := hHeld.le
    have hu4 : w.heap.size + 1 < u4.heap.size := hH7.lt
    have hBW : Below w.heap.size w _ := hB1.trans (hHeld.bel.mono (by omega))
    have hgot := HeldA.got hHeld t4 B4 m4 d4
    generalize (u4.setCell ⟨W.heap.size, 0, none⟩ (.bool t4)).setCell ⟨W.heap.size, 1, none⟩ (.slice B4 m4 d4) = u5 at *
    obtain ⟨p0, p1, p2, p3, p4⟩ := _root_.id P6
    obtain ⟨o1, o2, o3, o4, o5, o6, ⟨x0, o9⟩, ⟨x1, o10⟩, o11, o12⟩ := _root_.id hHeld
    have hcs := @cell_set
    go_wp2_with fail
    refine bodyPost_ret (v := .agg #[.bool t4, .slice B4 m4 d4]) ?_ rfl ?_
    · simp [results, Try.results31, go_sem, hgot.1, hgot.2]
    · refine ⟨⟨t4, B4, m4, d4, rfl, hq4.le (by have := hB1.size; omega) (Nat.le_refl _), ?_⟩, ?_⟩
      · exact (Y5.far (fun b o hA h0 => by have h9 := hq4 b o hA h0; simp; omega) _).far (fun b o hA h0 => by have h9 := hq4 b o hA h0; simp; omega) _
      · refine Below.setCell (Below.setCell hBW ?_ _) ?_ _ <;> first | (simp; done) | (simp; omega)
end Go.Proofs.Ytlbccpiadmcpjaa
end
