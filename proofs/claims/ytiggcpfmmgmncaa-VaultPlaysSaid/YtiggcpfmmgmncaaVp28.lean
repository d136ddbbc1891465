import Derived.Test.YtiggcpfmmgmncaaVp12
set_option maxHeartbeats 16000000
set_option maxRecDepth 100000
set_option linter.unusedVariables false
set_option linter.unusedSimpArgs false
namespace Go.Proofs.Ytiggcpfmmgmncaa
open Go.ChangeShapes Go.WideShapes Go.ChangeAt Go.RowKit
section
def goodR (f0 : Fr) (n i : Nat) (f : Fr) : Prop := f.ok = true ∧ f.life = f0.life ∧ f.era = f0.era ∧ f.seq = f0.seq ∧ f.parts = (n : Int) ∧ f.part = (i : Int) ∧ (i + 1 < n → f.data.length = 80)
theorem goodR_of {f0 f : Fr} {n k : Nat} (h0 : f0.parts = (n : Int)) (h : goodR f0 n k f) : goodJ f0 n k f = true := by
  obtain ⟨h1, h2, h3, h4, h5, h6, h7⟩ := h
  unfold goodJ
  rw [h1, decide_eq_true ⟨h2, h3, h4, h5.trans h0.symm⟩, decide_eq_true h6]
  by_cases hk : k + 1 < n
  · rw [decide_eq_true hk, decide_eq_true (h7 hk)]; rfl
  · rw [decide_eq_false hk]; rfl
theorem goodJ_not {f0 f : Fr} {n k : Nat} (h0 : f0.parts = (n : Int)) (h : ¬ goodR f0 n k f) : goodJ f0 n k f = false := by
  cases hg : goodJ f0 n k f with
  | false => rfl
  | true =>
    exfalso
    unfold goodJ at hg
    simp only [Bool.and_eq_true, decide_eq_true_eq, Bool.not_eq_true', Bool.and_eq_false_iff, decide_eq_false_iff_not] at hg
    refine h ⟨hg.1, hg.2.1.1, hg.2.1.2.1, hg.2.1.2.2.1, hg.2.1.2.2.2.trans h0, hg.2.2.1, fun hk => ?_⟩
    rcases hg.2.2.2 with h9 | h9
    · exact absurd hk h9
    · simpa using h9
theorem joinF_no {L : List Fr} {f0 f : Fr} {k : Nat} (h0 : L[0]? = some f0) (hk : L[k]? = some f) (h : ¬ goodR f0 L.length k f) : joinF L = ([], false) := by
  by_cases hp : ((L.length : Nat) : Int) = f0.parts
  · exact joinF_bad h0 hk (goodJ_not hp.symm h)
  · exact joinF_parts h0 hp
theorem joinF_yes {L : List Fr} {f0 : Fr} (h0 : L[0]? = some f0) (h : ∀ j f, L[j]? = some f → goodR f0 L.length j f) : joinF L = (dataJ L, true) := by
  have hp : f0.parts = ((L.length : Nat) : Int) := (h 0 f0 h0).2.2.2.2.1
  exact joinF_good h0 hp.symm (fun j f hj => goodR_of hp (h j f hj))
theorem rjoin7_any (B : Option Addr) (cap : Nat) (H : List Fh) (w : World) (hl : H.length ≤ 1000) (hs : Sl w B (rc Fh.cells H)) (hd : ∀ h ∈ H, Sl w h.A (by8 h.f.data) ∧ h.f.data.length ≤ 100000) :
    Calls Try.prog 79 #[.slice B H.length cap] w fun e w' => (∃ A' c', e = .returned (.tuple #[.slice A' (joinF (H.map Fh.f)).1.length c', .bool (joinF (H.map Fh.f)).2]) ∧ w'.ownsRow w.heap.size 5 1 (.slice A' (joinF (H.map Fh.f)).1.length c') (joinF (H.map Fh.f)).1.length (by8 (joinF (H.map Fh.f)).1)) ∧ Below w.heap.size w w' := by
  by_cases h0 : 0 < H.length
  · obtain ⟨b, o, rfl, hb, q0, q1, q2, q3, q4, q5⟩ := hs.fh h0
    obtain ⟨x0, hx0⟩ : ∃ x, H[0] = x := ⟨_, rfl⟩
    rw [hx0] at q0 q1 q2 q3 q4 q5
    simp only [Nat.zero_mul, Nat.add_zero] at q0 q1 q2 q3 q4 q5
    have H0 := Lib.hid h0
    go_enter Try.func79, Try.ntmps79
    go_wp2_with fail
    have HS := Lib.hid hs
    have HD := Lib.hid hd
    have HBLT := Lib.hid hb
    have HQ := Lib.hid (And.intro q0 (And.intro q1 (And.intro q2 (And.intro q3 (And.intro q4 q5)))))
    have HZ0 : Hid ((H.map Fh.f)[0]? = some x0.f) := Lib.hid (by rw [List.getElem?_map, List.getElem?_eq_getElem h0, hx0]; rfl)
    obtain ⟨n, hn⟩ : ∃ n, H.length = n := ⟨_, rfl⟩
    have HN := Lib.hid hn
    rw [hn] at hl ⊢
    clear hs hd hb q0 q1 q2 q3 q4 q5 hx0 hn h0
    go_loopw [4, 5] (fun bv iv wr => ∃ (k : Nat) (A2 : Option Addr) (c2 : Nat), k ≤ n ∧ bv = .slice A2 (dataJ ((H.map Fh.f).take k)).length c2 ∧ iv = .int .i64 k ∧ wr.ownsRow w.heap.size 5 1 (.slice A2 (dataJ ((H.map Fh.f).take k)).length c2) (dataJ ((H.map Fh.f).take k)).length (by8 (dataJ ((H.map Fh.f).take k))) ∧ (∀ j f, (H.map Fh.f)[j]? = some f → j < k → goodR x0.f n j f) ∧ Below w.heap.size w wr) (fun _ iv _ => n - (intOf iv).toNat)
    case atStart => exact ⟨0, none, 0, Nat.zero_le _, rfl, rfl, own_nil _ _ _, (fun j f hj h => absurd h (by omega)), Below.refl _ _⟩
    case round =>
      obtain ⟨k, A2, c2, hk, rfl, rfl, own2, hag, hB⟩ := hrel
      have HA := Lib.hid hag
      clear hag
      by_cases hlt : k < n
      · have hltH : k < H.length := by rw [HN.out]; exact hlt
        obtain ⟨b', o', hA', hb', g0, g1, g2, g3, g4, g5⟩ := (HS.out.below hB).fh hltH
        injection hA' with hA'
        injection hA' with hA1 hA2
        subst hA1; subst hA2
        clear hb'
        have hdat := HD.out H[k] (List.getElem_mem hltH)
        have hdt : dataJ ((H.map Fh.f).take (k + 1)) = dataJ ((H.map Fh.f).take k) ++ H[k].f.data := by
          rw [dataJ_take (by simpa using hltH)]; simp
        have hpl : (dataJ ((H.map Fh.f).take k)).length ≤ 100000000 := by
          have h1 := dataJ_len (l := (H.map Fh.f).take k) (m := 100000) fun f hf => by
            obtain ⟨x, hx, rfl⟩ := List.mem_map.1 (List.mem_of_mem_take hf)
            exact (HD.out x hx).2
          rw [List.length_take] at h1
          have h2 : min k (H.map Fh.f).length ≤ 1000 := by rw [List.length_map, HN.out]; omega
          have h3 := Nat.mul_le_mul_left 100000 h2
          omega
        have hkL : (H.map Fh.f)[k]? = some H[k].f := by rw [List.getElem?_map, List.getElem?_eq_getElem hltH]; rfl
        obtain ⟨x, hx⟩ : ∃ x, H[k] = x := ⟨_, rfl⟩
        rw [hx] at g0 g1 g2 g3 g4 g5 hdat hdt hkL
        have HGO : Hid (goodR x0.f n k x.f → ∀ j f, (H.map Fh.f)[j]? = some f → j < k + 1 → goodR x0.f n j f) := Lib.hid fun hg j f hj hjk => by
          rcases Nat.lt_or_ge j k with h | h
          · exact HA.out j f hj h
          · obtain rfl : j = k := by omega
            rw [hkL] at hj
            injection hj with hj
            rw [← hj]
            exact hg
        have HBA : Hid (¬ goodR x0.f n k x.f → joinF (H.map Fh.f) = ([], false)) := Lib.hid fun hg => joinF_no (k := k) HZ0.out hkL (by rw [List.length_map, HN.out]; exact hg)
        clear hkL hx
        obtain ⟨⟨life, era, seq, part, parts, D⟩, fA, fc⟩ := x
        obtain ⟨⟨l0, e0, s0, p0, r0, D0⟩, fA0, fc0⟩ := x0
        simp only at g0 g1 g2 g3 g4 g5 hdat hdt HGO HBA
        have hd0 := hdat.2
        have hd1 := hdat.1.below hB
        obtain ⟨dl, hdl⟩ : ∃ m, D.length = m := ⟨_, rfl⟩
        have HDL := Lib.hid hdl
        rw [hdl] at g5 hd0
        obtain ⟨P, hP⟩ : ∃ P, dataJ ((H.map Fh.f).take k) = P := ⟨_, rfl⟩
        rw [hP] at own2 hpl hdt ⊢
        have HDT := Lib.hid hdt
        clear hdt hP hdat hdl
        have hkn0 : (k : Int) < (n : Int) := by omega
        have hbr : b < wr.heap.size := Nat.lt_of_lt_of_le HBLT.out hB.size
        have y0 := (hB.cell (p := ⟨b, o, none⟩) HBLT.out).trans HQ.out.1
        have y1 := (hB.cell (p := ⟨b, o + 1, none⟩) HBLT.out).trans HQ.out.2.1
        have y2 := (hB.cell (p := ⟨b, o + 2, none⟩) HBLT.out).trans HQ.out.2.2.1
        have y3 := (hB.cell (p := ⟨b, o + 3, none⟩) HBLT.out).trans HQ.out.2.2.2.1
        have y4 := (hB.cell (p := ⟨b, o + 4, none⟩) HBLT.out).trans HQ.out.2.2.2.2.1
        have y5 := (hB.cell (p := ⟨b, o + 5, none⟩) HBLT.out).trans HQ.out.2.2.2.2.2
        simp only at y0 y1 y2 y3 y4 y5
        have HY := Lib.hid (And.intro y0 (And.intro y1 (And.intro y2 (And.intro y3 (And.intro y4 y5)))))
        clear y0 y1 y2 y3 y4 y5
        have HBR := Lib.hid hbr
        have hw64 : (0 : Int) ≤ (k : Int) := by omega
        have hn0 : 0 < n := by omega
        go_wp2_with fail
        generalize hWW : wr.alloc (.cells #[.int .i64 life, .int .i64 era, .int .i64 seq, .int .i64 part, .int .i64 parts, .slice fA dl fc] 111) = W at *
        have HBW : Hid (Below w.heap.size w W) := Lib.hid (by rw [← hWW]; exact since_alloc hB _)
        have HWL : Hid (wr.heap.size < W.heap.size) := Lib.hid (by rw [← hWW, World.size_alloc]; omega)
        have ownW : W.ownsRow w.heap.size 5 1 (.slice A2 P.length c2) P.length (by8 P) := by rw [← hWW]; exact own2.alloc _
        have HBF : Hid (∀ V, Below W.heap.size W V → V.cell? ⟨wr.heap.size, 0, none⟩ = some (.int .i64 life) ∧ V.cell? ⟨wr.heap.size, 1, none⟩ = some (.int .i64 era) ∧ V.cell? ⟨wr.heap.size, 2, none⟩ = some (.int .i64 seq) ∧ V.cell? ⟨wr.heap.size, 3, none⟩ = some (.int .i64 part) ∧ V.cell? ⟨wr.heap.size, 4, none⟩ = some (.int .i64 parts) ∧ V.cell? ⟨wr.heap.size, 5, none⟩ = some (.slice fA dl fc)) := Lib.hid (by rw [← hWW]; exact fun V hV => box6 hV)
        have HL0 : Hid (∀ V, Below W.heap.size W V → V.cell? ⟨b, o, none⟩ = some (.int .i64 l0) ∧ V.cell? ⟨b, o + 1, none⟩ = some (.int .i64 e0) ∧ V.cell? ⟨b, o + 2, none⟩ = some (.int .i64 s0) ∧ V.cell? ⟨b, o + 3, none⟩ = some (.int .i64 p0) ∧ V.cell? ⟨b, o + 4, none⟩ = some (.int .i64 r0) ∧ V.cell? ⟨b, o + 5, none⟩ = some (.slice fA0 D0.length fc0)) := Lib.hid fun V hV => by
          have hWV : Below wr.heap.size wr V := ((Below.refl _ wr).alloc (Nat.le_refl _) _).trans ((by rw [hWW]; exact hV.mono (Nat.le_of_lt HWL.out) : Below wr.heap.size (wr.alloc (.cells #[.int .i64 life, .int .i64 era, .int .i64 seq, .int .i64 part, .int .i64 parts, .slice fA dl fc] 111)) V))
          exact ⟨(hWV.cell (p := ⟨b, o, none⟩) HBR.out).trans HY.out.1, (hWV.cell (p := ⟨b, o + 1, none⟩) HBR.out).trans HY.out.2.1, (hWV.cell (p := ⟨b, o + 2, none⟩) HBR.out).trans HY.out.2.2.1, (hWV.cell (p := ⟨b, o + 3, none⟩) HBR.out).trans HY.out.2.2.2.1, (hWV.cell (p := ⟨b, o + 4, none⟩) HBR.out).trans HY.out.2.2.2.2.1, (hWV.cell (p := ⟨b, o + 5, none⟩) HBR.out).trans HY.out.2.2.2.2.2⟩
        have HSD : Hid (∀ V, Below W.heap.size W V → Sl V fA (by8 D)) := Lib.hid fun V hV => by
          have hWV : Below wr.heap.size wr V := ((Below.refl _ wr).alloc (Nat.le_refl _) _).trans ((by rw [hWW]; exact hV.mono (Nat.le_of_lt HWL.out) : Below wr.heap.size (wr.alloc (.cells #[.int .i64 life, .int .i64 era, .int .i64 seq, .int .i64 part, .int .i64 parts, .slice fA dl fc] 111)) V))
          exact hd1.below hWV
        clear hWW g0 g1 g2 g3 g4 g5 hbr own2 hd1
        have hk64 : IntKind.i64.wrap ((n : Int) - 1) = (n : Int) - 1 := IntWalk.i64_in _ (by omega)
        cases hok : Fr.ok ⟨life, era, seq, part, parts, D⟩ with
        | false =>
          have HIS : Hid (∀ V, Calls Try.prog 86 #[.agg #[.int .i64 life, .int .i64 era, .int .i64 seq, .int .i64 part, .int .i64 parts, .slice fA dl fc]] V fun e w' => e = .returned (.bool false) ∧ Below V.heap.size V w') := Lib.hid fun V => by
            have h := ris7_any ⟨life, era, seq, part, parts, D⟩ fA fc V
            unfold Fr.val at h
            simp only at h
            rw [HDL.out, hok] at h
            exact h
          have HJ := Lib.hid (HBA.out (fun g => by have g1 : Fr.ok ⟨life, era, seq, part, parts, D⟩ = true := g.1; rw [hok] at g1; cases g1))
          clear hok HGO HBA 
          refine wp_region_held_drew (S := (fun V' => Below W.heap.size W V')) (by kernel_rfl) (by exact (Below.refl _ _).drew) (fun hHeld => ?_)
          refine tkI 0 17 rfl (by intro w hSw; obtain ⟨z0, z1, z2, z3, z4, z5⟩ := HBF.out _ hSw; obtain ⟨q0, q1, q2, q3, q4, q5⟩ := HL0.out _ hSw; go_simp <;> with_reducible rfl) hHeld ?_; simp only [pqZ]
          refine rdZ 1 18 rfl (by kernel_rfl) (fun K hK => ?_)
          go_simp
          refine (HIS.out _).mono ?_
          rintro e x1 ⟨rfl, hk1⟩
          have hKeep := since_step hHeld hk1
          go_wp2_with fail
          refine hK.out _ _ (by (try dsimp only); exact hKeep) (fun hHeld => ?_); clear hK K hKeep; try simp only [pqZ]
          refine tkJ 2 19 rfl (by intro w; go_simp <;> with_reducible rfl) hHeld ?_; simp only [pqZ]
          refine tkJ 3 20 rfl (by intro w; go_simp <;> with_reducible rfl) hHeld ?_; simp only [pqZ]
          refine tkO 4 21 rfl (by kernel_rfl) (by rfl) hHeld ?_; simp only [pqZ]
          refine tkO 5 22 rfl (by kernel_rfl) (by rfl) hHeld ?_; simp only [pqZ]
          refine tkO 6 23 rfl (by kernel_rfl) (by rfl) hHeld ?_; simp only [pqZ]
          refine tkO 7 24 rfl (by kernel_rfl) (by rfl) hHeld ?_; simp only [pqZ]
          refine tkO 8 25 rfl (by kernel_rfl) (by rfl) hHeld ?_; simp only [pqZ]
          refine tkO 9 26 rfl (by kernel_rfl) (by rfl) hHeld ?_; simp only [pqZ]
          refine tkO 10 27 rfl (by kernel_rfl) (by rfl) hHeld ?_; simp only [pqZ]
          refine tkJ 11 28 rfl (by intro w; go_simp <;> with_reducible rfl) hHeld ?_; simp only [pqZ]
          refine tkJ 12 29 rfl (by intro w; go_simp <;> with_reducible rfl) hHeld ?_; simp only [pqZ]
          refine tkO 13 30 rfl (by kernel_rfl) (by rfl) hHeld ?_; simp only [pqZ]
          refine tkO 14 31 rfl (by kernel_rfl) (by rfl) hHeld ?_; simp only [pqZ]
          refine tkO 15 32 rfl (by kernel_rfl) (by rfl) hHeld ?_; simp only [pqZ]
          refine tkO 16 33 rfl (by kernel_rfl) (by rfl) hHeld ?_; simp only [pqZ]
          refine tkO 17 34 rfl (by kernel_rfl) (by rfl) hHeld ?_; simp only [pqZ]
          refine tkO 18 35 rfl (by kernel_rfl) (by rfl) hHeld ?_; simp only [pqZ]
          refine tkO 19 36 rfl (by kernel_rfl) (by rfl) hHeld ?_; simp only [pqZ]
          refine tkJ 20 37 rfl (by intro w; go_simp <;> with_reducible rfl) hHeld ?_; simp only [pqZ]
          refine tkJ 21 38 rfl (by intro w; go_simp <;> with_reducible rfl) hHeld ?_; simp only [pqZ]
          refine tkO 22 39 rfl (by kernel_rfl) (by rfl) hHeld ?_; simp only [pqZ]
          refine tkO 23 40 rfl (by kernel_rfl) (by rfl) hHeld ?_; simp only [pqZ]
          refine tkO 24 41 rfl (by kernel_rfl) (by rfl) hHeld ?_; simp only [pqZ]
          refine tkO 25 42 rfl (by kernel_rfl) (by rfl) hHeld ?_; simp only [pqZ]
          refine tkO 26 43 rfl (by kernel_rfl) (by rfl) hHeld ?_; simp only [pqZ]
          refine tkO 27 44 rfl (by kernel_rfl) (by rfl) hHeld ?_; simp only [pqZ]
          refine tkO 28 45 rfl (by kernel_rfl) (by rfl) hHeld ?_; simp only [pqZ]
          refine tkJ 29 46 rfl (by intro w; go_simp <;> with_reducible rfl) hHeld ?_; simp only [pqZ]
          refine tkJ 30 47 rfl (by intro w; go_simp <;> with_reducible rfl) hHeld ?_; simp only [pqZ]
          refine tkO 31 48 rfl (by kernel_rfl) (by rfl) hHeld ?_; simp only [pqZ]
          refine tkO 32 49 rfl (by kernel_rfl) (by rfl) hHeld ?_; simp only [pqZ]
          refine tkO 33 50 rfl (by kernel_rfl) (by rfl) hHeld ?_; simp only [pqZ]
          refine tkO 34 51 rfl (by kernel_rfl) (by rfl) hHeld ?_; simp only [pqZ]
          refine tkO 35 52 rfl (by kernel_rfl) (by rfl) hHeld ?_; simp only [pqZ]
          refine tkJ 36 53 rfl (by intro w; go_simp <;> with_reducible rfl) hHeld ?_; simp only [pqZ]
          refine tkJ 37 54 rfl (by intro w; go_simp <;> with_reducible rfl) hHeld ?_; simp only [pqZ]
          refine tkO 38 55 rfl (by kernel_rfl) (by rfl) hHeld ?_; simp only [pqZ]
          refine tkO 39 56 rfl (by kernel_rfl) (by rfl) hHeld ?_; simp only [pqZ]
          refine tkO 40 57 rfl (by kernel_rfl) (by rfl) hHeld ?_; simp only [pqZ]
          refine tkO 41 58 rfl (by kernel_rfl) (by rfl) hHeld ?_; simp only [pqZ]
          refine tkJ 42 59 rfl (by intro w; go_simp <;> with_reducible rfl) hHeld ?_; simp only [pqZ]
          refine tkJ 43 60 rfl (by intro w; go_simp <;> with_reducible rfl) hHeld ?_; simp only [pqZ]
          refine tkO 44 61 rfl (by kernel_rfl) (by rfl) hHeld ?_; simp only [pqZ]
          refine tkO 45 62 rfl (by kernel_rfl) (by rfl) hHeld ?_; simp only [pqZ]
          refine tkO 46 63 rfl (by kernel_rfl) (by rfl) hHeld ?_; simp only [pqZ]
          refine tkO 47 64 rfl (by kernel_rfl) (by rfl) hHeld ?_; simp only [pqZ]
          refine tkO 48 65 rfl (by kernel_rfl) (by rfl) hHeld ?_; simp only [pqZ]
          refine tkO 49 66 rfl (by kernel_rfl) (by rfl) hHeld ?_; simp only [pqZ]
          refine tkO 50 67 rfl (by kernel_rfl) (by rfl) hHeld ?_; simp only [pqZ]
          refine tkO 51 68 rfl (by kernel_rfl) (by rfl) hHeld ?_; simp only [pqZ]
          refine tkO 52 69 rfl (by kernel_rfl) (by rfl) hHeld ?_; simp only [pqZ]
          refine tkO 53 70 rfl (by kernel_rfl) (by rfl) hHeld ?_; simp only [pqZ]
          refine tkO 54 71 rfl (by kernel_rfl) (by rfl) hHeld ?_; simp only [pqZ]
          refine tkJ 55 72 rfl (by intro w; go_simp <;> with_reducible rfl) hHeld ?_; simp only [pqZ]
          refine wpAnyH_done (by kernel_rfl) ?_ _
          have hBf := HBW.out.trans (hHeld.mono HBW.out.size)
          go_wp2_with fail
          go_ret2
          rw [HJ.out]
          exact ⟨⟨none, 0, rfl, own_nil _ _ _⟩, hBf⟩
        | true =>
          by_cases hclife : life = l0
          · by_cases hcera : era = e0
            · by_cases hcseq : seq = s0
              · by_cases hcparts : parts = (n : Int)
                · by_cases hcpart : part = (k : Int)
                  · by_cases hckn : k + 1 < n
                    · by_cases hclen : D.length = 80
                      · have HIS : Hid (∀ V, Calls Try.prog 86 #[.agg #[.int .i64 life, .int .i64 era, .int .i64 seq, .int .i64 part, .int .i64 parts, .slice fA dl fc]] V fun e w' => e = .returned (.bool true) ∧ Below V.heap.size V w') := Lib.hid fun V => by
                          have h := ris7_any ⟨life, era, seq, part, parts, D⟩ fA fc V
                          unfold Fr.val at h
                          simp only at h
                          rw [HDL.out, hok] at h
                          exact h
                        have hlifee : (life != l0) = false := by rw [hclife]; simp
                        have herae : (era != e0) = false := by rw [hcera]; simp
                        have hseqe : (seq != s0) = false := by rw [hcseq]; simp
                        have hpartse : (parts != (n : Int)) = false := by rw [hcparts]; simp
                        have hparte : (part != (k : Int)) = false := by rw [hcpart]; simp
                        have hkn : decide ((k : Int) < (n : Int) - 1) = true := decide_eq_true (by omega)
                        have hld : decide ((dl : Int) < 80) = false := decide_eq_false (by have := HDL.out; omega)
                        have HAG := Lib.hid (HGO.out ⟨hok, hclife, hcera, hcseq, hcparts, hcpart, fun _ => hclen⟩)
                        clear hok HGO HBA hclife hcera hcseq hcparts hcpart hckn hclen
                        refine wp_region_held_drew (S := (fun V' => Below W.heap.size W V')) (by kernel_rfl) (by exact (Below.refl _ _).drew) (fun hHeld => ?_)
                        refine tkI 0 17 rfl (by intro w hSw; obtain ⟨z0, z1, z2, z3, z4, z5⟩ := HBF.out _ hSw; obtain ⟨q0, q1, q2, q3, q4, q5⟩ := HL0.out _ hSw; go_simp <;> with_reducible rfl) hHeld ?_; simp only [pqZ]
                        refine rdZ 1 18 rfl (by kernel_rfl) (fun K hK => ?_)
                        go_simp
                        refine (HIS.out _).mono ?_
                        rintro e x1 ⟨rfl, hk1⟩
                        have hKeep := since_step hHeld hk1
                        go_wp2_with fail
                        refine hK.out _ _ (by (try dsimp only); exact hKeep) (fun hHeld => ?_); clear hK K hKeep; try simp only [pqZ]
                        refine tkJ 2 19 rfl (by intro w; go_simp <;> with_reducible rfl) hHeld ?_; simp only [pqZ]
                        refine tkJ 3 20 rfl (by intro w; go_simp <;> with_reducible rfl) hHeld ?_; simp only [pqZ]
                        refine tkJ 4 21 rfl (by intro w; go_simp <;> with_reducible rfl) hHeld ?_; simp only [pqZ]
                        refine tkI 5 22 rfl (by intro w hSw; obtain ⟨z0, z1, z2, z3, z4, z5⟩ := HBF.out _ hSw; obtain ⟨q0, q1, q2, q3, q4, q5⟩ := HL0.out _ hSw; go_simp <;> with_reducible rfl) hHeld ?_; simp only [pqZ]
                        refine tkJ 6 23 rfl (by intro w; go_simp <;> with_reducible rfl) hHeld ?_; simp only [pqZ]
                        refine tkJ 7 24 rfl (by intro w; go_simp <;> with_reducible rfl) hHeld ?_; simp only [pqZ]
                        refine tkJ 8 25 rfl (by intro w; go_simp <;> with_reducible rfl) hHeld ?_; simp only [pqZ]
                        refine tkI 9 26 rfl (by intro w hSw; obtain ⟨z0, z1, z2, z3, z4, z5⟩ := HBF.out _ hSw; obtain ⟨q0, q1, q2, q3, q4, q5⟩ := HL0.out _ hSw; go_simp <;> with_reducible rfl) hHeld ?_; simp only [pqZ]
                        refine tkJ 10 27 rfl (by intro w; go_simp <;> with_reducible rfl) hHeld ?_; simp only [pqZ]
                        refine tkJ 11 28 rfl (by intro w; go_simp <;> with_reducible rfl) hHeld ?_; simp only [pqZ]
                        refine tkJ 12 29 rfl (by intro w; go_simp <;> with_reducible rfl) hHeld ?_; simp only [pqZ]
                        refine tkJ 13 30 rfl (by intro w; go_simp <;> with_reducible rfl) hHeld ?_; simp only [pqZ]
                        refine tkI 14 31 rfl (by intro w hSw; obtain ⟨z0, z1, z2, z3, z4, z5⟩ := HBF.out _ hSw; obtain ⟨q0, q1, q2, q3, q4, q5⟩ := HL0.out _ hSw; go_simp <;> with_reducible rfl) hHeld ?_; simp only [pqZ]
                        refine tkJ 15 32 rfl (by intro w; go_simp <;> with_reducible rfl) hHeld ?_; simp only [pqZ]
                        refine tkJ 16 33 rfl (by intro w; go_simp <;> with_reducible rfl) hHeld ?_; simp only [pqZ]
                        refine tkJ 17 34 rfl (by intro w; go_simp <;> with_reducible rfl) hHeld ?_; simp only [pqZ]
                        refine tkI 18 35 rfl (by intro w hSw; obtain ⟨z0, z1, z2, z3, z4, z5⟩ := HBF.out _ hSw; obtain ⟨q0, q1, q2, q3, q4, q5⟩ := HL0.out _ hSw; go_simp <;> with_reducible rfl) hHeld ?_; simp only [pqZ]
                        refine tkJ 19 36 rfl (by intro w; go_simp <;> with_reducible rfl) hHeld ?_; simp only [pqZ]
                        refine tkJ 20 37 rfl (by intro w; go_simp <;> with_reducible rfl) hHeld ?_; simp only [pqZ]
                        refine tkJ 21 38 rfl (by intro w; go_simp <;> with_reducible rfl) hHeld ?_; simp only [pqZ]
                        refine tkJ 22 39 rfl (by intro w; go_simp <;> with_reducible rfl) hHeld ?_; simp only [pqZ]
                        refine tkI 23 40 rfl (by intro w hSw; obtain ⟨z0, z1, z2, z3, z4, z5⟩ := HBF.out _ hSw; obtain ⟨q0, q1, q2, q3, q4, q5⟩ := HL0.out _ hSw; go_simp <;> with_reducible rfl) hHeld ?_; simp only [pqZ]
                        refine tkJ 24 41 rfl (by intro w; go_simp <;> with_reducible rfl) hHeld ?_; simp only [pqZ]
                        refine tkJ 25 42 rfl (by intro w; go_simp <;> with_reducible rfl) hHeld ?_; simp only [pqZ]
                        refine tkJ 26 43 rfl (by intro w; go_simp <;> with_reducible rfl) hHeld ?_; simp only [pqZ]
                        refine tkI 27 44 rfl (by intro w hSw; obtain ⟨z0, z1, z2, z3, z4, z5⟩ := HBF.out _ hSw; obtain ⟨q0, q1, q2, q3, q4, q5⟩ := HL0.out _ hSw; go_simp <;> with_reducible rfl) hHeld ?_; simp only [pqZ]
                        refine tkJ 28 45 rfl (by intro w; go_simp <;> with_reducible rfl) hHeld ?_; simp only [pqZ]
                        refine tkJ 29 46 rfl (by intro w; go_simp <;> with_reducible rfl) hHeld ?_; simp only [pqZ]
                        refine tkJ 30 47 rfl (by intro w; go_simp <;> with_reducible rfl) hHeld ?_; simp only [pqZ]
                        refine tkJ 31 48 rfl (by intro w; go_simp <;> with_reducible rfl) hHeld ?_; simp only [pqZ]
                        refine tkI 32 49 rfl (by intro w hSw; obtain ⟨z0, z1, z2, z3, z4, z5⟩ := HBF.out _ hSw; obtain ⟨q0, q1, q2, q3, q4, q5⟩ := HL0.out _ hSw; go_simp <;> with_reducible rfl) hHeld ?_; simp only [pqZ]
                        refine tkJ 33 50 rfl (by intro w; go_simp <;> with_reducible rfl) hHeld ?_; simp only [pqZ]
                        refine tkJ 34 51 rfl (by intro w; go_simp <;> with_reducible rfl) hHeld ?_; simp only [pqZ]
                        refine tkJ 35 52 rfl (by intro w; go_simp <;> with_reducible rfl) hHeld ?_; simp only [pqZ]
                        refine tkJ 36 53 rfl (by intro w; go_simp <;> with_reducible rfl) hHeld ?_; simp only [pqZ]
                        refine tkJ 37 54 rfl (by intro w; go_simp <;> with_reducible rfl) hHeld ?_; simp only [pqZ]
                        refine tkJ 38 55 rfl (by intro w; go_simp <;> with_reducible rfl) hHeld ?_; simp only [pqZ]
                        refine tkI 39 56 rfl (by intro w hSw; obtain ⟨z0, z1, z2, z3, z4, z5⟩ := HBF.out _ hSw; obtain ⟨q0, q1, q2, q3, q4, q5⟩ := HL0.out _ hSw; go_simp <;> with_reducible rfl) hHeld ?_; simp only [pqZ]
                        refine tkJ 40 57 rfl (by intro w; go_simp <;> with_reducible rfl) hHeld ?_; simp only [pqZ]
                        refine tkJ 41 58 rfl (by intro w; go_simp <;> with_reducible rfl) hHeld ?_; simp only [pqZ]
                        refine tkJ 42 59 rfl (by intro w; go_simp <;> with_reducible rfl) hHeld ?_; simp only [pqZ]
                        refine tkJ 43 60 rfl (by intro w; go_simp <;> with_reducible rfl) hHeld ?_; simp only [pqZ]
                        refine tkJ 44 61 rfl (by intro w; go_simp <;> with_reducible rfl) hHeld ?_; simp only [pqZ]
                        refine tkJ 45 62 rfl (by intro w; go_simp <;> with_reducible rfl) hHeld ?_; simp only [pqZ]
                        refine tkJ 46 63 rfl (by intro w; go_simp <;> with_reducible rfl) hHeld ?_; simp only [pqZ]
                        refine tkJ 47 64 rfl (by intro w; go_simp <;> with_reducible rfl) hHeld ?_; simp only [pqZ]
                        refine tkJ 48 65 rfl (by intro w; go_simp <;> with_reducible rfl) hHeld ?_; simp only [pqZ]
                        refine tkJ 49 66 rfl (by intro w; go_simp <;> with_reducible rfl) hHeld ?_; simp only [pqZ]
                        refine tkJ 50 67 rfl (by intro w; go_simp <;> with_reducible rfl) hHeld ?_; simp only [pqZ]
                        refine tkI 51 68 rfl (by intro w hSw; obtain ⟨z0, z1, z2, z3, z4, z5⟩ := HBF.out _ hSw; obtain ⟨q0, q1, q2, q3, q4, q5⟩ := HL0.out _ hSw; go_simp <;> with_reducible rfl) hHeld ?_; simp only [pqZ]
                        refine tkJ 52 69 rfl (by intro w; go_simp <;> with_reducible rfl) hHeld ?_; simp only [pqZ]
                        refine tkJ 53 70 rfl (by intro w; go_simp <;> with_reducible rfl) hHeld ?_; simp only [pqZ]
                        refine tkJ 54 71 rfl (by intro w; go_simp <;> with_reducible rfl) hHeld ?_; simp only [pqZ]
                        refine tkJ 55 72 rfl (by intro w; go_simp <;> with_reducible rfl) hHeld ?_; simp only [pqZ]
                        refine wpAnyH_done (by kernel_rfl) ?_ _
                        have hBf := HBW.out.trans (hHeld.mono HBW.out.size)
                        have own3 := own_below ownW hHeld
                        have hsd := HSD.out _ hHeld
                        obtain ⟨z0, z1, z2, z3, z4, z5⟩ := HBF.out _ hHeld
                        have hzl : wr.heap.size < x1.heap.size := Nat.lt_of_lt_of_le HWL.out hHeld.size
                        have hwsz : w.heap.size ≤ x1.heap.size := hBf.size
                        clear hHeld
                        go_wp2_with (first
                          | (at_builtin; refine wpList_app rfl (.tmp 73) (.tmp 75) rfl EF8 rfl rfl own3 (m := dl) (news := by8 D) (by rw [by8_length, HDL.out]; omega) hsd (by8_one _) (by unfold maxLen; omega) (by omega) hwsz ?_; intro A4 c4 x4 own4 hg4 hb4)
                          | fail)
                        rw [← by8_append] at own4
                        have hln : (P ++ D).length = P.length + dl := by rw [List.length_append, HDL.out]
                        have hB4 := hBf.trans hb4
                        go_roundw
                        case rel => exact ⟨k + 1, A4, c4, by omega, by rw [HDT.out, hln], by go_num, by rw [HDT.out, hln]; exact own4, HAG.out, hB4⟩
                        case measure => simp [intOf]; omega
                      · have HIS : Hid (∀ V, Calls Try.prog 86 #[.agg #[.int .i64 life, .int .i64 era, .int .i64 seq, .int .i64 part, .int .i64 parts, .slice fA dl fc]] V fun e w' => e = .returned (.bool true) ∧ Below V.heap.size V w') := Lib.hid fun V => by
                          have h := ris7_any ⟨life, era, seq, part, parts, D⟩ fA fc V
                          unfold Fr.val at h
                          simp only at h
                          rw [HDL.out, hok] at h
                          exact h
                        have hlifee : (life != l0) = false := by rw [hclife]; simp
                        have herae : (era != e0) = false := by rw [hcera]; simp
                        have hseqe : (seq != s0) = false := by rw [hcseq]; simp
                        have hpartse : (parts != (n : Int)) = false := by rw [hcparts]; simp
                        have hparte : (part != (k : Int)) = false := by rw [hcpart]; simp
                        have hkn : decide ((k : Int) < (n : Int) - 1) = true := decide_eq_true (by omega)
                        have hld : decide ((dl : Int) < 80) = true := decide_eq_true (by have h8 := ((Fr.ok_iff _).1 hok).2.2.2.2.2.2.2.2.2.2; have := HDL.out; simp only at h8; omega)
                        have HJ := Lib.hid (HBA.out (fun g => hclen (g.2.2.2.2.2.2 hckn)))
                        clear hok HGO HBA hclife hcera hcseq hcparts hcpart hckn hclen
                        refine wp_region_held_drew (S := (fun V' => Below W.heap.size W V')) (by kernel_rfl) (by exact (Below.refl _ _).drew) (fun hHeld => ?_)
                        refine tkI 0 17 rfl (by intro w hSw; obtain ⟨z0, z1, z2, z3, z4, z5⟩ := HBF.out _ hSw; obtain ⟨q0, q1, q2, q3, q4, q5⟩ := HL0.out _ hSw; go_simp <;> with_reducible rfl) hHeld ?_; simp only [pqZ]
                        refine rdZ 1 18 rfl (by kernel_rfl) (fun K hK => ?_)
                        go_simp
                        refine (HIS.out _).mono ?_
                        rintro e x1 ⟨rfl, hk1⟩
                        have hKeep := since_step hHeld hk1
                        go_wp2_with fail
                        refine hK.out _ _ (by (try dsimp only); exact hKeep) (fun hHeld => ?_); clear hK K hKeep; try simp only [pqZ]
                        refine tkJ 2 19 rfl (by intro w; go_simp <;> with_reducible rfl) hHeld ?_; simp only [pqZ]
                        refine tkJ 3 20 rfl (by intro w; go_simp <;> with_reducible rfl) hHeld ?_; simp only [pqZ]
                        refine tkJ 4 21 rfl (by intro w; go_simp <;> with_reducible rfl) hHeld ?_; simp only [pqZ]
                        refine tkI 5 22 rfl (by intro w hSw; obtain ⟨z0, z1, z2, z3, z4, z5⟩ := HBF.out _ hSw; obtain ⟨q0, q1, q2, q3, q4, q5⟩ := HL0.out _ hSw; go_simp <;> with_reducible rfl) hHeld ?_; simp only [pqZ]
                        refine tkJ 6 23 rfl (by intro w; go_simp <;> with_reducible rfl) hHeld ?_; simp only [pqZ]
                        refine tkJ 7 24 rfl (by intro w; go_simp <;> with_reducible rfl) hHeld ?_; simp only [pqZ]
                        refine tkJ 8 25 rfl (by intro w; go_simp <;> with_reducible rfl) hHeld ?_; simp only [pqZ]
                        refine tkI 9 26 rfl (by intro w hSw; obtain ⟨z0, z1, z2, z3, z4, z5⟩ := HBF.out _ hSw; obtain ⟨q0, q1, q2, q3, q4, q5⟩ := HL0.out _ hSw; go_simp <;> with_reducible rfl) hHeld ?_; simp only [pqZ]
                        refine tkJ 10 27 rfl (by intro w; go_simp <;> with_reducible rfl) hHeld ?_; simp only [pqZ]
                        refine tkJ 11 28 rfl (by intro w; go_simp <;> with_reducible rfl) hHeld ?_; simp only [pqZ]
                        refine tkJ 12 29 rfl (by intro w; go_simp <;> with_reducible rfl) hHeld ?_; simp only [pqZ]
                        refine tkJ 13 30 rfl (by intro w; go_simp <;> with_reducible rfl) hHeld ?_; simp only [pqZ]
                        refine tkI 14 31 rfl (by intro w hSw; obtain ⟨z0, z1, z2, z3, z4, z5⟩ := HBF.out _ hSw; obtain ⟨q0, q1, q2, q3, q4, q5⟩ := HL0.out _ hSw; go_simp <;> with_reducible rfl) hHeld ?_; simp only [pqZ]
                        refine tkJ 15 32 rfl (by intro w; go_simp <;> with_reducible rfl) hHeld ?_; simp only [pqZ]
                        refine tkJ 16 33 rfl (by intro w; go_simp <;> with_reducible rfl) hHeld ?_; simp only [pqZ]
                        refine tkJ 17 34 rfl (by intro w; go_simp <;> with_reducible rfl) hHeld ?_; simp only [pqZ]
                        refine tkI 18 35 rfl (by intro w hSw; obtain ⟨z0, z1, z2, z3, z4, z5⟩ := HBF.out _ hSw; obtain ⟨q0, q1, q2, q3, q4, q5⟩ := HL0.out _ hSw; go_simp <;> with_reducible rfl) hHeld ?_; simp only [pqZ]
                        refine tkJ 19 36 rfl (by intro w; go_simp <;> with_reducible rfl) hHeld ?_; simp only [pqZ]
                        refine tkJ 20 37 rfl (by intro w; go_simp <;> with_reducible rfl) hHeld ?_; simp only [pqZ]
                        refine tkJ 21 38 rfl (by intro w; go_simp <;> with_reducible rfl) hHeld ?_; simp only [pqZ]
                        refine tkJ 22 39 rfl (by intro w; go_simp <;> with_reducible rfl) hHeld ?_; simp only [pqZ]
                        refine tkI 23 40 rfl (by intro w hSw; obtain ⟨z0, z1, z2, z3, z4, z5⟩ := HBF.out _ hSw; obtain ⟨q0, q1, q2, q3, q4, q5⟩ := HL0.out _ hSw; go_simp <;> with_reducible rfl) hHeld ?_; simp only [pqZ]
                        refine tkJ 24 41 rfl (by intro w; go_simp <;> with_reducible rfl) hHeld ?_; simp only [pqZ]
                        refine tkJ 25 42 rfl (by intro w; go_simp <;> with_reducible rfl) hHeld ?_; simp only [pqZ]
                        refine tkJ 26 43 rfl (by intro w; go_simp <;> with_reducible rfl) hHeld ?_; simp only [pqZ]
                        refine tkI 27 44 rfl (by intro w hSw; obtain ⟨z0, z1, z2, z3, z4, z5⟩ := HBF.out _ hSw; obtain ⟨q0, q1, q2, q3, q4, q5⟩ := HL0.out _ hSw; go_simp <;> with_reducible rfl) hHeld ?_; simp only [pqZ]
                        refine tkJ 28 45 rfl (by intro w; go_simp <;> with_reducible rfl) hHeld ?_; simp only [pqZ]
                        refine tkJ 29 46 rfl (by intro w; go_simp <;> with_reducible rfl) hHeld ?_; simp only [pqZ]
                        refine tkJ 30 47 rfl (by intro w; go_simp <;> with_reducible rfl) hHeld ?_; simp only [pqZ]
                        refine tkJ 31 48 rfl (by intro w; go_simp <;> with_reducible rfl) hHeld ?_; simp only [pqZ]
                        refine tkI 32 49 rfl (by intro w hSw; obtain ⟨z0, z1, z2, z3, z4, z5⟩ := HBF.out _ hSw; obtain ⟨q0, q1, q2, q3, q4, q5⟩ := HL0.out _ hSw; go_simp <;> with_reducible rfl) hHeld ?_; simp only [pqZ]
                        refine tkJ 33 50 rfl (by intro w; go_simp <;> with_reducible rfl) hHeld ?_; simp only [pqZ]
                        refine tkJ 34 51 rfl (by intro w; go_simp <;> with_reducible rfl) hHeld ?_; simp only [pqZ]
                        refine tkJ 35 52 rfl (by intro w; go_simp <;> with_reducible rfl) hHeld ?_; simp only [pqZ]
                        refine tkJ 36 53 rfl (by intro w; go_simp <;> with_reducible rfl) hHeld ?_; simp only [pqZ]
                        refine tkJ 37 54 rfl (by intro w; go_simp <;> with_reducible rfl) hHeld ?_; simp only [pqZ]
                        refine tkJ 38 55 rfl (by intro w; go_simp <;> with_reducible rfl) hHeld ?_; simp only [pqZ]
                        refine tkI 39 56 rfl (by intro w hSw; obtain ⟨z0, z1, z2, z3, z4, z5⟩ := HBF.out _ hSw; obtain ⟨q0, q1, q2, q3, q4, q5⟩ := HL0.out _ hSw; go_simp <;> with_reducible rfl) hHeld ?_; simp only [pqZ]
                        refine tkJ 40 57 rfl (by intro w; go_simp <;> with_reducible rfl) hHeld ?_; simp only [pqZ]
                        refine tkJ 41 58 rfl (by intro w; go_simp <;> with_reducible rfl) hHeld ?_; simp only [pqZ]
                        refine tkJ 42 59 rfl (by intro w; go_simp <;> with_reducible rfl) hHeld ?_; simp only [pqZ]
                        refine tkJ 43 60 rfl (by intro w; go_simp <;> with_reducible rfl) hHeld ?_; simp only [pqZ]
                        refine tkJ 44 61 rfl (by intro w; go_simp <;> with_reducible rfl) hHeld ?_; simp only [pqZ]
                        refine tkJ 45 62 rfl (by intro w; go_simp <;> with_reducible rfl) hHeld ?_; simp only [pqZ]
                        refine tkJ 46 63 rfl (by intro w; go_simp <;> with_reducible rfl) hHeld ?_; simp only [pqZ]
                        refine tkJ 47 64 rfl (by intro w; go_simp <;> with_reducible rfl) hHeld ?_; simp only [pqZ]
                        refine tkJ 48 65 rfl (by intro w; go_simp <;> with_reducible rfl) hHeld ?_; simp only [pqZ]
                        refine tkJ 49 66 rfl (by intro w; go_simp <;> with_reducible rfl) hHeld ?_; simp only [pqZ]
                        refine tkJ 50 67 rfl (by intro w; go_simp <;> with_reducible rfl) hHeld ?_; simp only [pqZ]
                        refine tkI 51 68 rfl (by intro w hSw; obtain ⟨z0, z1, z2, z3, z4, z5⟩ := HBF.out _ hSw; obtain ⟨q0, q1, q2, q3, q4, q5⟩ := HL0.out _ hSw; go_simp <;> with_reducible rfl) hHeld ?_; simp only [pqZ]
                        refine tkJ 52 69 rfl (by intro w; go_simp <;> with_reducible rfl) hHeld ?_; simp only [pqZ]
                        refine tkJ 53 70 rfl (by intro w; go_simp <;> with_reducible rfl) hHeld ?_; simp only [pqZ]
                        refine tkJ 54 71 rfl (by intro w; go_simp <;> with_reducible rfl) hHeld ?_; simp only [pqZ]
                        refine tkJ 55 72 rfl (by intro w; go_simp <;> with_reducible rfl) hHeld ?_; simp only [pqZ]
                        refine wpAnyH_done (by kernel_rfl) ?_ _
                        have hBf := HBW.out.trans (hHeld.mono HBW.out.size)
                        go_wp2_with fail
                        go_ret2
                        rw [HJ.out]
                        exact ⟨⟨none, 0, rfl, own_nil _ _ _⟩, hBf⟩
                    · have HIS : Hid (∀ V, Calls Try.prog 86 #[.agg #[.int .i64 life, .int .i64 era, .int .i64 seq, .int .i64 part, .int .i64 parts, .slice fA dl fc]] V fun e w' => e = .returned (.bool true) ∧ Below V.heap.size V w') := Lib.hid fun V => by
                        have h := ris7_any ⟨life, era, seq, part, parts, D⟩ fA fc V
                        unfold Fr.val at h
                        simp only at h
                        rw [HDL.out, hok] at h
                        exact h
                      have hlifee : (life != l0) = false := by rw [hclife]; simp
                      have herae : (era != e0) = false := by rw [hcera]; simp
                      have hseqe : (seq != s0) = false := by rw [hcseq]; simp
                      have hpartse : (parts != (n : Int)) = false := by rw [hcparts]; simp
                      have hparte : (part != (k : Int)) = false := by rw [hcpart]; simp
                      have hkn : decide ((k : Int) < (n : Int) - 1) = false := decide_eq_false (by omega)
                      have HAG := Lib.hid (HGO.out ⟨hok, hclife, hcera, hcseq, hcparts, hcpart, fun h => absurd h hckn⟩)
                      clear hok HGO HBA hclife hcera hcseq hcparts hcpart hckn
                      refine wp_region_held_drew (S := (fun V' => Below W.heap.size W V')) (by kernel_rfl) (by exact (Below.refl _ _).drew) (fun hHeld => ?_)
                      refine tkI 0 17 rfl (by intro w hSw; obtain ⟨z0, z1, z2, z3, z4, z5⟩ := HBF.out _ hSw; obtain ⟨q0, q1, q2, q3, q4, q5⟩ := HL0.out _ hSw; go_simp <;> with_reducible rfl) hHeld ?_; simp only [pqZ]
                      refine rdZ 1 18 rfl (by kernel_rfl) (fun K hK => ?_)
                      go_simp
                      refine (HIS.out _).mono ?_
                      rintro e x1 ⟨rfl, hk1⟩
                      have hKeep := since_step hHeld hk1
                      go_wp2_with fail
                      refine hK.out _ _ (by (try dsimp only); exact hKeep) (fun hHeld => ?_); clear hK K hKeep; try simp only [pqZ]
                      refine tkJ 2 19 rfl (by intro w; go_simp <;> with_reducible rfl) hHeld ?_; simp only [pqZ]
                      refine tkJ 3 20 rfl (by intro w; go_simp <;> with_reducible rfl) hHeld ?_; simp only [pqZ]
                      refine tkJ 4 21 rfl (by intro w; go_simp <;> with_reducible rfl) hHeld ?_; simp only [pqZ]
                      refine tkI 5 22 rfl (by intro w hSw; obtain ⟨z0, z1, z2, z3, z4, z5⟩ := HBF.out _ hSw; obtain ⟨q0, q1, q2, q3, q4, q5⟩ := HL0.out _ hSw; go_simp <;> with_reducible rfl) hHeld ?_; simp only [pqZ]
                      refine tkJ 6 23 rfl (by intro w; go_simp <;> with_reducible rfl) hHeld ?_; simp only [pqZ]
                      refine tkJ 7 24 rfl (by intro w; go_simp <;> with_reducible rfl) hHeld ?_; simp only [pqZ]
                      refine tkJ 8 25 rfl (by intro w; go_simp <;> with_reducible rfl) hHeld ?_; simp only [pqZ]
                      refine tkI 9 26 rfl (by intro w hSw; obtain ⟨z0, z1, z2, z3, z4, z5⟩ := HBF.out _ hSw; obtain ⟨q0, q1, q2, q3, q4, q5⟩ := HL0.out _ hSw; go_simp <;> with_reducible rfl) hHeld ?_; simp only [pqZ]
                      refine tkJ 10 27 rfl (by intro w; go_simp <;> with_reducible rfl) hHeld ?_; simp only [pqZ]
                      refine tkJ 11 28 rfl (by intro w; go_simp <;> with_reducible rfl) hHeld ?_; simp only [pqZ]
                      refine tkJ 12 29 rfl (by intro w; go_simp <;> with_reducible rfl) hHeld ?_; simp only [pqZ]
                      refine tkJ 13 30 rfl (by intro w; go_simp <;> with_reducible rfl) hHeld ?_; simp only [pqZ]
                      refine tkI 14 31 rfl (by intro w hSw; obtain ⟨z0, z1, z2, z3, z4, z5⟩ := HBF.out _ hSw; obtain ⟨q0, q1, q2, q3, q4, q5⟩ := HL0.out _ hSw; go_simp <;> with_reducible rfl) hHeld ?_; simp only [pqZ]
                      refine tkJ 15 32 rfl (by intro w; go_simp <;> with_reducible rfl) hHeld ?_; simp only [pqZ]
                      refine tkJ 16 33 rfl (by intro w; go_simp <;> with_reducible rfl) hHeld ?_; simp only [pqZ]
                      refine tkJ 17 34 rfl (by intro w; go_simp <;> with_reducible rfl) hHeld ?_; simp only [pqZ]
                      refine tkI 18 35 rfl (by intro w hSw; obtain ⟨z0, z1, z2, z3, z4, z5⟩ := HBF.out _ hSw; obtain ⟨q0, q1, q2, q3, q4, q5⟩ := HL0.out _ hSw; go_simp <;> with_reducible rfl) hHeld ?_; simp only [pqZ]
                      refine tkJ 19 36 rfl (by intro w; go_simp <;> with_reducible rfl) hHeld ?_; simp only [pqZ]
                      refine tkJ 20 37 rfl (by intro w; go_simp <;> with_reducible rfl) hHeld ?_; simp only [pqZ]
                      refine tkJ 21 38 rfl (by intro w; go_simp <;> with_reducible rfl) hHeld ?_; simp only [pqZ]
                      refine tkJ 22 39 rfl (by intro w; go_simp <;> with_reducible rfl) hHeld ?_; simp only [pqZ]
                      refine tkI 23 40 rfl (by intro w hSw; obtain ⟨z0, z1, z2, z3, z4, z5⟩ := HBF.out _ hSw; obtain ⟨q0, q1, q2, q3, q4, q5⟩ := HL0.out _ hSw; go_simp <;> with_reducible rfl) hHeld ?_; simp only [pqZ]
                      refine tkJ 24 41 rfl (by intro w; go_simp <;> with_reducible rfl) hHeld ?_; simp only [pqZ]
                      refine tkJ 25 42 rfl (by intro w; go_simp <;> with_reducible rfl) hHeld ?_; simp only [pqZ]
                      refine tkJ 26 43 rfl (by intro w; go_simp <;> with_reducible rfl) hHeld ?_; simp only [pqZ]
                      refine tkI 27 44 rfl (by intro w hSw; obtain ⟨z0, z1, z2, z3, z4, z5⟩ := HBF.out _ hSw; obtain ⟨q0, q1, q2, q3, q4, q5⟩ := HL0.out _ hSw; go_simp <;> with_reducible rfl) hHeld ?_; simp only [pqZ]
                      refine tkJ 28 45 rfl (by intro w; go_simp <;> with_reducible rfl) hHeld ?_; simp only [pqZ]
                      refine tkJ 29 46 rfl (by intro w; go_simp <;> with_reducible rfl) hHeld ?_; simp only [pqZ]
                      refine tkJ 30 47 rfl (by intro w; go_simp <;> with_reducible rfl) hHeld ?_; simp only [pqZ]
                      refine tkJ 31 48 rfl (by intro w; go_simp <;> with_reducible rfl) hHeld ?_; simp only [pqZ]
                      refine tkI 32 49 rfl (by intro w hSw; obtain ⟨z0, z1, z2, z3, z4, z5⟩ := HBF.out _ hSw; obtain ⟨q0, q1, q2, q3, q4, q5⟩ := HL0.out _ hSw; go_simp <;> with_reducible rfl) hHeld ?_; simp only [pqZ]
                      refine tkJ 33 50 rfl (by intro w; go_simp <;> with_reducible rfl) hHeld ?_; simp only [pqZ]
                      refine tkJ 34 51 rfl (by intro w; go_simp <;> with_reducible rfl) hHeld ?_; simp only [pqZ]
                      refine tkJ 35 52 rfl (by intro w; go_simp <;> with_reducible rfl) hHeld ?_; simp only [pqZ]
                      refine tkJ 36 53 rfl (by intro w; go_simp <;> with_reducible rfl) hHeld ?_; simp only [pqZ]
                      refine tkJ 37 54 rfl (by intro w; go_simp <;> with_reducible rfl) hHeld ?_; simp only [pqZ]
                      refine tkJ 38 55 rfl (by intro w; go_simp <;> with_reducible rfl) hHeld ?_; simp only [pqZ]
                      refine tkI 39 56 rfl (by intro w hSw; obtain ⟨z0, z1, z2, z3, z4, z5⟩ := HBF.out _ hSw; obtain ⟨q0, q1, q2, q3, q4, q5⟩ := HL0.out _ hSw; go_simp <;> with_reducible rfl) hHeld ?_; simp only [pqZ]
                      refine tkJ 40 57 rfl (by intro w; go_simp <;> with_reducible rfl) hHeld ?_; simp only [pqZ]
                      refine tkJ 41 58 rfl (by intro w; go_simp <;> with_reducible rfl) hHeld ?_; simp only [pqZ]
                      refine tkJ 42 59 rfl (by intro w; go_simp <;> with_reducible rfl) hHeld ?_; simp only [pqZ]
                      refine tkJ 43 60 rfl (by intro w; go_simp <;> with_reducible rfl) hHeld ?_; simp only [pqZ]
                      refine tkJ 44 61 rfl (by intro w; go_simp <;> with_reducible rfl) hHeld ?_; simp only [pqZ]
                      refine tkJ 45 62 rfl (by intro w; go_simp <;> with_reducible rfl) hHeld ?_; simp only [pqZ]
                      refine tkJ 46 63 rfl (by intro w; go_simp <;> with_reducible rfl) hHeld ?_; simp only [pqZ]
                      refine tkJ 47 64 rfl (by intro w; go_simp <;> with_reducible rfl) hHeld ?_; simp only [pqZ]
                      refine tkJ 48 65 rfl (by intro w; go_simp <;> with_reducible rfl) hHeld ?_; simp only [pqZ]
                      refine tkJ 49 66 rfl (by intro w; go_simp <;> with_reducible rfl) hHeld ?_; simp only [pqZ]
                      refine tkO 50 67 rfl (by kernel_rfl) (by rfl) hHeld ?_; simp only [pqZ]
                      refine tkO 51 68 rfl (by kernel_rfl) (by rfl) hHeld ?_; simp only [pqZ]
                      refine tkO 52 69 rfl (by kernel_rfl) (by rfl) hHeld ?_; simp only [pqZ]
                      refine tkO 53 70 rfl (by kernel_rfl) (by rfl) hHeld ?_; simp only [pqZ]
                      refine tkJ 54 71 rfl (by intro w; go_simp <;> with_reducible rfl) hHeld ?_; simp only [pqZ]
                      refine tkJ 55 72 rfl (by intro w; go_simp <;> with_reducible rfl) hHeld ?_; simp only [pqZ]
                      refine wpAnyH_done (by kernel_rfl) ?_ _
                      have hBf := HBW.out.trans (hHeld.mono HBW.out.size)
                      have own3 := own_below ownW hHeld
                      have hsd := HSD.out _ hHeld
                      obtain ⟨z0, z1, z2, z3, z4, z5⟩ := HBF.out _ hHeld
                      have hzl : wr.heap.size < x1.heap.size := Nat.lt_of_lt_of_le HWL.out hHeld.size
                      have hwsz : w.heap.size ≤ x1.heap.size := hBf.size
                      clear hHeld
                      go_wp2_with (first
                        | (at_builtin; refine wpList_app rfl (.tmp 73) (.tmp 75) rfl EF8 rfl rfl own3 (m := dl) (news := by8 D) (by rw [by8_length, HDL.out]; omega) hsd (by8_one _) (by unfold maxLen; omega) (by omega) hwsz ?_; intro A4 c4 x4 own4 hg4 hb4)
                        | fail)
                      rw [← by8_append] at own4
                      have hln : (P ++ D).length = P.length + dl := by rw [List.length_append, HDL.out]
                      have hB4 := hBf.trans hb4
                      go_roundw
                      case rel => exact ⟨k + 1, A4, c4, by omega, by rw [HDT.out, hln], by go_num, by rw [HDT.out, hln]; exact own4, HAG.out, hB4⟩
                      case measure => simp [intOf]; omega
                  · have HIS : Hid (∀ V, Calls Try.prog 86 #[.agg #[.int .i64 life, .int .i64 era, .int .i64 seq, .int .i64 part, .int .i64 parts, .slice fA dl fc]] V fun e w' => e = .returned (.bool true) ∧ Below V.heap.size V w') := Lib.hid fun V => by
                      have h := ris7_any ⟨life, era, seq, part, parts, D⟩ fA fc V
                      unfold Fr.val at h
                      simp only at h
                      rw [HDL.out, hok] at h
                      exact h
                    have hlifee : (life != l0) = false := by rw [hclife]; simp
                    have herae : (era != e0) = false := by rw [hcera]; simp
                    have hseqe : (seq != s0) = false := by rw [hcseq]; simp
                    have hpartse : (parts != (n : Int)) = false := by rw [hcparts]; simp
                    have hpartn : (part != (k : Int)) = true := bne_iff_ne.2 hcpart
                    have HJ := Lib.hid (HBA.out (fun g => hcpart g.2.2.2.2.2.1))
                    clear hok HGO HBA hclife hcera hcseq hcparts hcpart
                    refine wp_region_held_drew (S := (fun V' => Below W.heap.size W V')) (by kernel_rfl) (by exact (Below.refl _ _).drew) (fun hHeld => ?_)
                    refine tkI 0 17 rfl (by intro w hSw; obtain ⟨z0, z1, z2, z3, z4, z5⟩ := HBF.out _ hSw; obtain ⟨q0, q1, q2, q3, q4, q5⟩ := HL0.out _ hSw; go_simp <;> with_reducible rfl) hHeld ?_; simp only [pqZ]
                    refine rdZ 1 18 rfl (by kernel_rfl) (fun K hK => ?_)
                    go_simp
                    refine (HIS.out _).mono ?_
                    rintro e x1 ⟨rfl, hk1⟩
                    have hKeep := since_step hHeld hk1
                    go_wp2_with fail
                    refine hK.out _ _ (by (try dsimp only); exact hKeep) (fun hHeld => ?_); clear hK K hKeep; try simp only [pqZ]
                    refine tkJ 2 19 rfl (by intro w; go_simp <;> with_reducible rfl) hHeld ?_; simp only [pqZ]
                    refine tkJ 3 20 rfl (by intro w; go_simp <;> with_reducible rfl) hHeld ?_; simp only [pqZ]
                    refine tkJ 4 21 rfl (by intro w; go_simp <;> with_reducible rfl) hHeld ?_; simp only [pqZ]
                    refine tkI 5 22 rfl (by intro w hSw; obtain ⟨z0, z1, z2, z3, z4, z5⟩ := HBF.out _ hSw; obtain ⟨q0, q1, q2, q3, q4, q5⟩ := HL0.out _ hSw; go_simp <;> with_reducible rfl) hHeld ?_; simp only [pqZ]
                    refine tkJ 6 23 rfl (by intro w; go_simp <;> with_reducible rfl) hHeld ?_; simp only [pqZ]
                    refine tkJ 7 24 rfl (by intro w; go_simp <;> with_reducible rfl) hHeld ?_; simp only [pqZ]
                    refine tkJ 8 25 rfl (by intro w; go_simp <;> with_reducible rfl) hHeld ?_; simp only [pqZ]
                    refine tkI 9 26 rfl (by intro w hSw; obtain ⟨z0, z1, z2, z3, z4, z5⟩ := HBF.out _ hSw; obtain ⟨q0, q1, q2, q3, q4, q5⟩ := HL0.out _ hSw; go_simp <;> with_reducible rfl) hHeld ?_; simp only [pqZ]
                    refine tkJ 10 27 rfl (by intro w; go_simp <;> with_reducible rfl) hHeld ?_; simp only [pqZ]
                    refine tkJ 11 28 rfl (by intro w; go_simp <;> with_reducible rfl) hHeld ?_; simp only [pqZ]
                    refine tkJ 12 29 rfl (by intro w; go_simp <;> with_reducible rfl) hHeld ?_; simp only [pqZ]
                    refine tkJ 13 30 rfl (by intro w; go_simp <;> with_reducible rfl) hHeld ?_; simp only [pqZ]
                    refine tkI 14 31 rfl (by intro w hSw; obtain ⟨z0, z1, z2, z3, z4, z5⟩ := HBF.out _ hSw; obtain ⟨q0, q1, q2, q3, q4, q5⟩ := HL0.out _ hSw; go_simp <;> with_reducible rfl) hHeld ?_; simp only [pqZ]
                    refine tkJ 15 32 rfl (by intro w; go_simp <;> with_reducible rfl) hHeld ?_; simp only [pqZ]
                    refine tkJ 16 33 rfl (by intro w; go_simp <;> with_reducible rfl) hHeld ?_; simp only [pqZ]
                    refine tkJ 17 34 rfl (by intro w; go_simp <;> with_reducible rfl) hHeld ?_; simp only [pqZ]
                    refine tkI 18 35 rfl (by intro w hSw; obtain ⟨z0, z1, z2, z3, z4, z5⟩ := HBF.out _ hSw; obtain ⟨q0, q1, q2, q3, q4, q5⟩ := HL0.out _ hSw; go_simp <;> with_reducible rfl) hHeld ?_; simp only [pqZ]
                    refine tkJ 19 36 rfl (by intro w; go_simp <;> with_reducible rfl) hHeld ?_; simp only [pqZ]
                    refine tkJ 20 37 rfl (by intro w; go_simp <;> with_reducible rfl) hHeld ?_; simp only [pqZ]
                    refine tkJ 21 38 rfl (by intro w; go_simp <;> with_reducible rfl) hHeld ?_; simp only [pqZ]
                    refine tkJ 22 39 rfl (by intro w; go_simp <;> with_reducible rfl) hHeld ?_; simp only [pqZ]
                    refine tkI 23 40 rfl (by intro w hSw; obtain ⟨z0, z1, z2, z3, z4, z5⟩ := HBF.out _ hSw; obtain ⟨q0, q1, q2, q3, q4, q5⟩ := HL0.out _ hSw; go_simp <;> with_reducible rfl) hHeld ?_; simp only [pqZ]
                    refine tkJ 24 41 rfl (by intro w; go_simp <;> with_reducible rfl) hHeld ?_; simp only [pqZ]
                    refine tkJ 25 42 rfl (by intro w; go_simp <;> with_reducible rfl) hHeld ?_; simp only [pqZ]
                    refine tkJ 26 43 rfl (by intro w; go_simp <;> with_reducible rfl) hHeld ?_; simp only [pqZ]
                    refine tkI 27 44 rfl (by intro w hSw; obtain ⟨z0, z1, z2, z3, z4, z5⟩ := HBF.out _ hSw; obtain ⟨q0, q1, q2, q3, q4, q5⟩ := HL0.out _ hSw; go_simp <;> with_reducible rfl) hHeld ?_; simp only [pqZ]
                    refine tkJ 28 45 rfl (by intro w; go_simp <;> with_reducible rfl) hHeld ?_; simp only [pqZ]
                    refine tkJ 29 46 rfl (by intro w; go_simp <;> with_reducible rfl) hHeld ?_; simp only [pqZ]
                    refine tkJ 30 47 rfl (by intro w; go_simp <;> with_reducible rfl) hHeld ?_; simp only [pqZ]
                    refine tkJ 31 48 rfl (by intro w; go_simp <;> with_reducible rfl) hHeld ?_; simp only [pqZ]
                    refine tkI 32 49 rfl (by intro w hSw; obtain ⟨z0, z1, z2, z3, z4, z5⟩ := HBF.out _ hSw; obtain ⟨q0, q1, q2, q3, q4, q5⟩ := HL0.out _ hSw; go_simp <;> with_reducible rfl) hHeld ?_; simp only [pqZ]
                    refine tkJ 33 50 rfl (by intro w; go_simp <;> with_reducible rfl) hHeld ?_; simp only [pqZ]
                    refine tkJ 34 51 rfl (by intro w; go_simp <;> with_reducible rfl) hHeld ?_; simp only [pqZ]
                    refine tkJ 35 52 rfl (by intro w; go_simp <;> with_reducible rfl) hHeld ?_; simp only [pqZ]
                    refine tkJ 36 53 rfl (by intro w; go_simp <;> with_reducible rfl) hHeld ?_; simp only [pqZ]
                    refine tkJ 37 54 rfl (by intro w; go_simp <;> with_reducible rfl) hHeld ?_; simp only [pqZ]
                    refine tkJ 38 55 rfl (by intro w; go_simp <;> with_reducible rfl) hHeld ?_; simp only [pqZ]
                    refine tkI 39 56 rfl (by intro w hSw; obtain ⟨z0, z1, z2, z3, z4, z5⟩ := HBF.out _ hSw; obtain ⟨q0, q1, q2, q3, q4, q5⟩ := HL0.out _ hSw; go_simp <;> with_reducible rfl) hHeld ?_; simp only [pqZ]
                    refine tkJ 40 57 rfl (by intro w; go_simp <;> with_reducible rfl) hHeld ?_; simp only [pqZ]
                    refine tkJ 41 58 rfl (by intro w; go_simp <;> with_reducible rfl) hHeld ?_; simp only [pqZ]
                    refine tkJ 42 59 rfl (by intro w; go_simp <;> with_reducible rfl) hHeld ?_; simp only [pqZ]
                    refine tkJ 43 60 rfl (by intro w; go_simp <;> with_reducible rfl) hHeld ?_; simp only [pqZ]
                    refine tkO 44 61 rfl (by kernel_rfl) (by rfl) hHeld ?_; simp only [pqZ]
                    refine tkO 45 62 rfl (by kernel_rfl) (by rfl) hHeld ?_; simp only [pqZ]
                    refine tkO 46 63 rfl (by kernel_rfl) (by rfl) hHeld ?_; simp only [pqZ]
                    refine tkO 47 64 rfl (by kernel_rfl) (by rfl) hHeld ?_; simp only [pqZ]
                    refine tkO 48 65 rfl (by kernel_rfl) (by rfl) hHeld ?_; simp only [pqZ]
                    refine tkO 49 66 rfl (by kernel_rfl) (by rfl) hHeld ?_; simp only [pqZ]
                    refine tkO 50 67 rfl (by kernel_rfl) (by rfl) hHeld ?_; simp only [pqZ]
                    refine tkO 51 68 rfl (by kernel_rfl) (by rfl) hHeld ?_; simp only [pqZ]
                    refine tkO 52 69 rfl (by kernel_rfl) (by rfl) hHeld ?_; simp only [pqZ]
                    refine tkO 53 70 rfl (by kernel_rfl) (by rfl) hHeld ?_; simp only [pqZ]
                    refine tkO 54 71 rfl (by kernel_rfl) (by rfl) hHeld ?_; simp only [pqZ]
                    refine tkJ 55 72 rfl (by intro w; go_simp <;> with_reducible rfl) hHeld ?_; simp only [pqZ]
                    refine wpAnyH_done (by kernel_rfl) ?_ _
                    have hBf := HBW.out.trans (hHeld.mono HBW.out.size)
                    go_wp2_with fail
                    go_ret2
                    rw [HJ.out]
                    exact ⟨⟨none, 0, rfl, own_nil _ _ _⟩, hBf⟩
                · have HIS : Hid (∀ V, Calls Try.prog 86 #[.agg #[.int .i64 life, .int .i64 era, .int .i64 seq, .int .i64 part, .int .i64 parts, .slice fA dl fc]] V fun e w' => e = .returned (.bool true) ∧ Below V.heap.size V w') := Lib.hid fun V => by
                    have h := ris7_any ⟨life, era, seq, part, parts, D⟩ fA fc V
                    unfold Fr.val at h
                    simp only at h
                    rw [HDL.out, hok] at h
                    exact h
                  have hlifee : (life != l0) = false := by rw [hclife]; simp
                  have herae : (era != e0) = false := by rw [hcera]; simp
                  have hseqe : (seq != s0) = false := by rw [hcseq]; simp
                  have hpartsn : (parts != (n : Int)) = true := bne_iff_ne.2 hcparts
                  have HJ := Lib.hid (HBA.out (fun g => hcparts g.2.2.2.2.1))
                  clear hok HGO HBA hclife hcera hcseq hcparts
                  refine wp_region_held_drew (S := (fun V' => Below W.heap.size W V')) (by kernel_rfl) (by exact (Below.refl _ _).drew) (fun hHeld => ?_)
                  refine tkI 0 17 rfl (by intro w hSw; obtain ⟨z0, z1, z2, z3, z4, z5⟩ := HBF.out _ hSw; obtain ⟨q0, q1, q2, q3, q4, q5⟩ := HL0.out _ hSw; go_simp <;> with_reducible rfl) hHeld ?_; simp only [pqZ]
                  refine rdZ 1 18 rfl (by kernel_rfl) (fun K hK => ?_)
                  go_simp
                  refine (HIS.out _).mono ?_
                  rintro e x1 ⟨rfl, hk1⟩
                  have hKeep := since_step hHeld hk1
                  go_wp2_with fail
                  refine hK.out _ _ (by (try dsimp only); exact hKeep) (fun hHeld => ?_); clear hK K hKeep; try simp only [pqZ]
                  refine tkJ 2 19 rfl (by intro w; go_simp <;> with_reducible rfl) hHeld ?_; simp only [pqZ]
                  refine tkJ 3 20 rfl (by intro w; go_simp <;> with_reducible rfl) hHeld ?_; simp only [pqZ]
                  refine tkJ 4 21 rfl (by intro w; go_simp <;> with_reducible rfl) hHeld ?_; simp only [pqZ]
                  refine tkI 5 22 rfl (by intro w hSw; obtain ⟨z0, z1, z2, z3, z4, z5⟩ := HBF.out _ hSw; obtain ⟨q0, q1, q2, q3, q4, q5⟩ := HL0.out _ hSw; go_simp <;> with_reducible rfl) hHeld ?_; simp only [pqZ]
                  refine tkJ 6 23 rfl (by intro w; go_simp <;> with_reducible rfl) hHeld ?_; simp only [pqZ]
                  refine tkJ 7 24 rfl (by intro w; go_simp <;> with_reducible rfl) hHeld ?_; simp only [pqZ]
                  refine tkJ 8 25 rfl (by intro w; go_simp <;> with_reducible rfl) hHeld ?_; simp only [pqZ]
                  refine tkI 9 26 rfl (by intro w hSw; obtain ⟨z0, z1, z2, z3, z4, z5⟩ := HBF.out _ hSw; obtain ⟨q0, q1, q2, q3, q4, q5⟩ := HL0.out _ hSw; go_simp <;> with_reducible rfl) hHeld ?_; simp only [pqZ]
                  refine tkJ 10 27 rfl (by intro w; go_simp <;> with_reducible rfl) hHeld ?_; simp only [pqZ]
                  refine tkJ 11 28 rfl (by intro w; go_simp <;> with_reducible rfl) hHeld ?_; simp only [pqZ]
                  refine tkJ 12 29 rfl (by intro w; go_simp <;> with_reducible rfl) hHeld ?_; simp only [pqZ]
                  refine tkJ 13 30 rfl (by intro w; go_simp <;> with_reducible rfl) hHeld ?_; simp only [pqZ]
                  refine tkI 14 31 rfl (by intro w hSw; obtain ⟨z0, z1, z2, z3, z4, z5⟩ := HBF.out _ hSw; obtain ⟨q0, q1, q2, q3, q4, q5⟩ := HL0.out _ hSw; go_simp <;> with_reducible rfl) hHeld ?_; simp only [pqZ]
                  refine tkJ 15 32 rfl (by intro w; go_simp <;> with_reducible rfl) hHeld ?_; simp only [pqZ]
                  refine tkJ 16 33 rfl (by intro w; go_simp <;> with_reducible rfl) hHeld ?_; simp only [pqZ]
                  refine tkJ 17 34 rfl (by intro w; go_simp <;> with_reducible rfl) hHeld ?_; simp only [pqZ]
                  refine tkI 18 35 rfl (by intro w hSw; obtain ⟨z0, z1, z2, z3, z4, z5⟩ := HBF.out _ hSw; obtain ⟨q0, q1, q2, q3, q4, q5⟩ := HL0.out _ hSw; go_simp <;> with_reducible rfl) hHeld ?_; simp only [pqZ]
                  refine tkJ 19 36 rfl (by intro w; go_simp <;> with_reducible rfl) hHeld ?_; simp only [pqZ]
                  refine tkJ 20 37 rfl (by intro w; go_simp <;> with_reducible rfl) hHeld ?_; simp only [pqZ]
                  refine tkJ 21 38 rfl (by intro w; go_simp <;> with_reducible rfl) hHeld ?_; simp only [pqZ]
                  refine tkJ 22 39 rfl (by intro w; go_simp <;> with_reducible rfl) hHeld ?_; simp only [pqZ]
                  refine tkI 23 40 rfl (by intro w hSw; obtain ⟨z0, z1, z2, z3, z4, z5⟩ := HBF.out _ hSw; obtain ⟨q0, q1, q2, q3, q4, q5⟩ := HL0.out _ hSw; go_simp <;> with_reducible rfl) hHeld ?_; simp only [pqZ]
                  refine tkJ 24 41 rfl (by intro w; go_simp <;> with_reducible rfl) hHeld ?_; simp only [pqZ]
                  refine tkJ 25 42 rfl (by intro w; go_simp <;> with_reducible rfl) hHeld ?_; simp only [pqZ]
                  refine tkJ 26 43 rfl (by intro w; go_simp <;> with_reducible rfl) hHeld ?_; simp only [pqZ]
                  refine tkI 27 44 rfl (by intro w hSw; obtain ⟨z0, z1, z2, z3, z4, z5⟩ := HBF.out _ hSw; obtain ⟨q0, q1, q2, q3, q4, q5⟩ := HL0.out _ hSw; go_simp <;> with_reducible rfl) hHeld ?_; simp only [pqZ]
                  refine tkJ 28 45 rfl (by intro w; go_simp <;> with_reducible rfl) hHeld ?_; simp only [pqZ]
                  refine tkJ 29 46 rfl (by intro w; go_simp <;> with_reducible rfl) hHeld ?_; simp only [pqZ]
                  refine tkJ 30 47 rfl (by intro w; go_simp <;> with_reducible rfl) hHeld ?_; simp only [pqZ]
                  refine tkJ 31 48 rfl (by intro w; go_simp <;> with_reducible rfl) hHeld ?_; simp only [pqZ]
                  refine tkI 32 49 rfl (by intro w hSw; obtain ⟨z0, z1, z2, z3, z4, z5⟩ := HBF.out _ hSw; obtain ⟨q0, q1, q2, q3, q4, q5⟩ := HL0.out _ hSw; go_simp <;> with_reducible rfl) hHeld ?_; simp only [pqZ]
                  refine tkJ 33 50 rfl (by intro w; go_simp <;> with_reducible rfl) hHeld ?_; simp only [pqZ]
                  refine tkJ 34 51 rfl (by intro w; go_simp <;> with_reducible rfl) hHeld ?_; simp only [pqZ]
                  refine tkJ 35 52 rfl (by intro w; go_simp <;> with_reducible rfl) hHeld ?_; simp only [pqZ]
                  refine tkJ 36 53 rfl (by intro w; go_simp <;> with_reducible rfl) hHeld ?_; simp only [pqZ]
                  refine tkJ 37 54 rfl (by intro w; go_simp <;> with_reducible rfl) hHeld ?_; simp only [pqZ]
                  refine tkO 38 55 rfl (by kernel_rfl) (by rfl) hHeld ?_; simp only [pqZ]
                  refine tkO 39 56 rfl (by kernel_rfl) (by rfl) hHeld ?_; simp only [pqZ]
                  refine tkO 40 57 rfl (by kernel_rfl) (by rfl) hHeld ?_; simp only [pqZ]
                  refine tkO 41 58 rfl (by kernel_rfl) (by rfl) hHeld ?_; simp only [pqZ]
                  refine tkJ 42 59 rfl (by intro w; go_simp <;> with_reducible rfl) hHeld ?_; simp only [pqZ]
                  refine tkJ 43 60 rfl (by intro w; go_simp <;> with_reducible rfl) hHeld ?_; simp only [pqZ]
                  refine tkO 44 61 rfl (by kernel_rfl) (by rfl) hHeld ?_; simp only [pqZ]
                  refine tkO 45 62 rfl (by kernel_rfl) (by rfl) hHeld ?_; simp only [pqZ]
                  refine tkO 46 63 rfl (by kernel_rfl) (by rfl) hHeld ?_; simp only [pqZ]
                  refine tkO 47 64 rfl (by kernel_rfl) (by rfl) hHeld ?_; simp only [pqZ]
                  refine tkO 48 65 rfl (by kernel_rfl) (by rfl) hHeld ?_; simp only [pqZ]
                  refine tkO 49 66 rfl (by kernel_rfl) (by rfl) hHeld ?_; simp only [pqZ]
                  refine tkO 50 67 rfl (by kernel_rfl) (by rfl) hHeld ?_; simp only [pqZ]
                  refine tkO 51 68 rfl (by kernel_rfl) (by rfl) hHeld ?_; simp only [pqZ]
                  refine tkO 52 69 rfl (by kernel_rfl) (by rfl) hHeld ?_; simp only [pqZ]
                  refine tkO 53 70 rfl (by kernel_rfl) (by rfl) hHeld ?_; simp only [pqZ]
                  refine tkO 54 71 rfl (by kernel_rfl) (by rfl) hHeld ?_; simp only [pqZ]
                  refine tkJ 55 72 rfl (by intro w; go_simp <;> with_reducible rfl) hHeld ?_; simp only [pqZ]
                  refine wpAnyH_done (by kernel_rfl) ?_ _
                  have hBf := HBW.out.trans (hHeld.mono HBW.out.size)
                  go_wp2_with fail
                  go_ret2
                  rw [HJ.out]
                  exact ⟨⟨none, 0, rfl, own_nil _ _ _⟩, hBf⟩
              · have HIS : Hid (∀ V, Calls Try.prog 86 #[.agg #[.int .i64 life, .int .i64 era, .int .i64 seq, .int .i64 part, .int .i64 parts, .slice fA dl fc]] V fun e w' => e = .returned (.bool true) ∧ Below V.heap.size V w') := Lib.hid fun V => by
                  have h := ris7_any ⟨life, era, seq, part, parts, D⟩ fA fc V
                  unfold Fr.val at h
                  simp only at h
                  rw [HDL.out, hok] at h
                  exact h
                have hlifee : (life != l0) = false := by rw [hclife]; simp
                have herae : (era != e0) = false := by rw [hcera]; simp
                have hseqn : (seq != s0) = true := bne_iff_ne.2 hcseq
                have HJ := Lib.hid (HBA.out (fun g => hcseq g.2.2.2.1))
                clear hok HGO HBA hclife hcera hcseq
                refine wp_region_held_drew (S := (fun V' => Below W.heap.size W V')) (by kernel_rfl) (by exact (Below.refl _ _).drew) (fun hHeld => ?_)
                refine tkI 0 17 rfl (by intro w hSw; obtain ⟨z0, z1, z2, z3, z4, z5⟩ := HBF.out _ hSw; obtain ⟨q0, q1, q2, q3, q4, q5⟩ := HL0.out _ hSw; go_simp <;> with_reducible rfl) hHeld ?_; simp only [pqZ]
                refine rdZ 1 18 rfl (by kernel_rfl) (fun K hK => ?_)
                go_simp
                refine (HIS.out _).mono ?_
                rintro e x1 ⟨rfl, hk1⟩
                have hKeep := since_step hHeld hk1
                go_wp2_with fail
                refine hK.out _ _ (by (try dsimp only); exact hKeep) (fun hHeld => ?_); clear hK K hKeep; try simp only [pqZ]
                refine tkJ 2 19 rfl (by intro w; go_simp <;> with_reducible rfl) hHeld ?_; simp only [pqZ]
                refine tkJ 3 20 rfl (by intro w; go_simp <;> with_reducible rfl) hHeld ?_; simp only [pqZ]
                refine tkJ 4 21 rfl (by intro w; go_simp <;> with_reducible rfl) hHeld ?_; simp only [pqZ]
                refine tkI 5 22 rfl (by intro w hSw; obtain ⟨z0, z1, z2, z3, z4, z5⟩ := HBF.out _ hSw; obtain ⟨q0, q1, q2, q3, q4, q5⟩ := HL0.out _ hSw; go_simp <;> with_reducible rfl) hHeld ?_; simp only [pqZ]
                refine tkJ 6 23 rfl (by intro w; go_simp <;> with_reducible rfl) hHeld ?_; simp only [pqZ]
                refine tkJ 7 24 rfl (by intro w; go_simp <;> with_reducible rfl) hHeld ?_; simp only [pqZ]
                refine tkJ 8 25 rfl (by intro w; go_simp <;> with_reducible rfl) hHeld ?_; simp only [pqZ]
                refine tkI 9 26 rfl (by intro w hSw; obtain ⟨z0, z1, z2, z3, z4, z5⟩ := HBF.out _ hSw; obtain ⟨q0, q1, q2, q3, q4, q5⟩ := HL0.out _ hSw; go_simp <;> with_reducible rfl) hHeld ?_; simp only [pqZ]
                refine tkJ 10 27 rfl (by intro w; go_simp <;> with_reducible rfl) hHeld ?_; simp only [pqZ]
                refine tkJ 11 28 rfl (by intro w; go_simp <;> with_reducible rfl) hHeld ?_; simp only [pqZ]
                refine tkJ 12 29 rfl (by intro w; go_simp <;> with_reducible rfl) hHeld ?_; simp only [pqZ]
                refine tkJ 13 30 rfl (by intro w; go_simp <;> with_reducible rfl) hHeld ?_; simp only [pqZ]
                refine tkI 14 31 rfl (by intro w hSw; obtain ⟨z0, z1, z2, z3, z4, z5⟩ := HBF.out _ hSw; obtain ⟨q0, q1, q2, q3, q4, q5⟩ := HL0.out _ hSw; go_simp <;> with_reducible rfl) hHeld ?_; simp only [pqZ]
                refine tkJ 15 32 rfl (by intro w; go_simp <;> with_reducible rfl) hHeld ?_; simp only [pqZ]
                refine tkJ 16 33 rfl (by intro w; go_simp <;> with_reducible rfl) hHeld ?_; simp only [pqZ]
                refine tkJ 17 34 rfl (by intro w; go_simp <;> with_reducible rfl) hHeld ?_; simp only [pqZ]
                refine tkI 18 35 rfl (by intro w hSw; obtain ⟨z0, z1, z2, z3, z4, z5⟩ := HBF.out _ hSw; obtain ⟨q0, q1, q2, q3, q4, q5⟩ := HL0.out _ hSw; go_simp <;> with_reducible rfl) hHeld ?_; simp only [pqZ]
                refine tkJ 19 36 rfl (by intro w; go_simp <;> with_reducible rfl) hHeld ?_; simp only [pqZ]
                refine tkJ 20 37 rfl (by intro w; go_simp <;> with_reducible rfl) hHeld ?_; simp only [pqZ]
                refine tkJ 21 38 rfl (by intro w; go_simp <;> with_reducible rfl) hHeld ?_; simp only [pqZ]
                refine tkJ 22 39 rfl (by intro w; go_simp <;> with_reducible rfl) hHeld ?_; simp only [pqZ]
                refine tkI 23 40 rfl (by intro w hSw; obtain ⟨z0, z1, z2, z3, z4, z5⟩ := HBF.out _ hSw; obtain ⟨q0, q1, q2, q3, q4, q5⟩ := HL0.out _ hSw; go_simp <;> with_reducible rfl) hHeld ?_; simp only [pqZ]
                refine tkJ 24 41 rfl (by intro w; go_simp <;> with_reducible rfl) hHeld ?_; simp only [pqZ]
                refine tkJ 25 42 rfl (by intro w; go_simp <;> with_reducible rfl) hHeld ?_; simp only [pqZ]
                refine tkJ 26 43 rfl (by intro w; go_simp <;> with_reducible rfl) hHeld ?_; simp only [pqZ]
                refine tkI 27 44 rfl (by intro w hSw; obtain ⟨z0, z1, z2, z3, z4, z5⟩ := HBF.out _ hSw; obtain ⟨q0, q1, q2, q3, q4, q5⟩ := HL0.out _ hSw; go_simp <;> with_reducible rfl) hHeld ?_; simp only [pqZ]
                refine tkJ 28 45 rfl (by intro w; go_simp <;> with_reducible rfl) hHeld ?_; simp only [pqZ]
                refine tkJ 29 46 rfl (by intro w; go_simp <;> with_reducible rfl) hHeld ?_; simp only [pqZ]
                refine tkJ 30 47 rfl (by intro w; go_simp <;> with_reducible rfl) hHeld ?_; simp only [pqZ]
                refine tkO 31 48 rfl (by kernel_rfl) (by rfl) hHeld ?_; simp only [pqZ]
                refine tkO 32 49 rfl (by kernel_rfl) (by rfl) hHeld ?_; simp only [pqZ]
                refine tkO 33 50 rfl (by kernel_rfl) (by rfl) hHeld ?_; simp only [pqZ]
                refine tkO 34 51 rfl (by kernel_rfl) (by rfl) hHeld ?_; simp only [pqZ]
                refine tkO 35 52 rfl (by kernel_rfl) (by rfl) hHeld ?_; simp only [pqZ]
                refine tkJ 36 53 rfl (by intro w; go_simp <;> with_reducible rfl) hHeld ?_; simp only [pqZ]
                refine tkJ 37 54 rfl (by intro w; go_simp <;> with_reducible rfl) hHeld ?_; simp only [pqZ]
                refine tkO 38 55 rfl (by kernel_rfl) (by rfl) hHeld ?_; simp only [pqZ]
                refine tkO 39 56 rfl (by kernel_rfl) (by rfl) hHeld ?_; simp only [pqZ]
                refine tkO 40 57 rfl (by kernel_rfl) (by rfl) hHeld ?_; simp only [pqZ]
                refine tkO 41 58 rfl (by kernel_rfl) (by rfl) hHeld ?_; simp only [pqZ]
                refine tkJ 42 59 rfl (by intro w; go_simp <;> with_reducible rfl) hHeld ?_; simp only [pqZ]
                refine tkJ 43 60 rfl (by intro w; go_simp <;> with_reducible rfl) hHeld ?_; simp only [pqZ]
                refine tkO 44 61 rfl (by kernel_rfl) (by rfl) hHeld ?_; simp only [pqZ]
                refine tkO 45 62 rfl (by kernel_rfl) (by rfl) hHeld ?_; simp only [pqZ]
                refine tkO 46 63 rfl (by kernel_rfl) (by rfl) hHeld ?_; simp only [pqZ]
                refine tkO 47 64 rfl (by kernel_rfl) (by rfl) hHeld ?_; simp only [pqZ]
                refine tkO 48 65 rfl (by kernel_rfl) (by rfl) hHeld ?_; simp only [pqZ]
                refine tkO 49 66 rfl (by kernel_rfl) (by rfl) hHeld ?_; simp only [pqZ]
                refine tkO 50 67 rfl (by kernel_rfl) (by rfl) hHeld ?_; simp only [pqZ]
                refine tkO 51 68 rfl (by kernel_rfl) (by rfl) hHeld ?_; simp only [pqZ]
                refine tkO 52 69 rfl (by kernel_rfl) (by rfl) hHeld ?_; simp only [pqZ]
                refine tkO 53 70 rfl (by kernel_rfl) (by rfl) hHeld ?_; simp only [pqZ]
                refine tkO 54 71 rfl (by kernel_rfl) (by rfl) hHeld ?_; simp only [pqZ]
                refine tkJ 55 72 rfl (by intro w; go_simp <;> with_reducible rfl) hHeld ?_; simp only [pqZ]
                refine wpAnyH_done (by kernel_rfl) ?_ _
                have hBf := HBW.out.trans (hHeld.mono HBW.out.size)
                go_wp2_with fail
                go_ret2
                rw [HJ.out]
                exact ⟨⟨none, 0, rfl, own_nil _ _ _⟩, hBf⟩
            · have HIS : Hid (∀ V, Calls Try.prog 86 #[.agg #[.int .i64 life, .int .i64 era, .int .i64 seq, .int .i64 part, .int .i64 parts, .slice fA dl fc]] V fun e w' => e = .returned (.bool true) ∧ Below V.heap.size V w') := Lib.hid fun V => by
                have h := ris7_any ⟨life, era, seq, part, parts, D⟩ fA fc V
                unfold Fr.val at h
                simp only at h
                rw [HDL.out, hok] at h
                exact h
              have hlifee : (life != l0) = false := by rw [hclife]; simp
              have heran : (era != e0) = true := bne_iff_ne.2 hcera
              have HJ := Lib.hid (HBA.out (fun g => hcera g.2.2.1))
              clear hok HGO HBA hclife hcera
              refine wp_region_held_drew (S := (fun V' => Below W.heap.size W V')) (by kernel_rfl) (by exact (Below.refl _ _).drew) (fun hHeld => ?_)
              refine tkI 0 17 rfl (by intro w hSw; obtain ⟨z0, z1, z2, z3, z4, z5⟩ := HBF.out _ hSw; obtain ⟨q0, q1, q2, q3, q4, q5⟩ := HL0.out _ hSw; go_simp <;> with_reducible rfl) hHeld ?_; simp only [pqZ]
              refine rdZ 1 18 rfl (by kernel_rfl) (fun K hK => ?_)
              go_simp
              refine (HIS.out _).mono ?_
              rintro e x1 ⟨rfl, hk1⟩
              have hKeep := since_step hHeld hk1
              go_wp2_with fail
              refine hK.out _ _ (by (try dsimp only); exact hKeep) (fun hHeld => ?_); clear hK K hKeep; try simp only [pqZ]
              refine tkJ 2 19 rfl (by intro w; go_simp <;> with_reducible rfl) hHeld ?_; simp only [pqZ]
              refine tkJ 3 20 rfl (by intro w; go_simp <;> with_reducible rfl) hHeld ?_; simp only [pqZ]
              refine tkJ 4 21 rfl (by intro w; go_simp <;> with_reducible rfl) hHeld ?_; simp only [pqZ]
              refine tkI 5 22 rfl (by intro w hSw; obtain ⟨z0, z1, z2, z3, z4, z5⟩ := HBF.out _ hSw; obtain ⟨q0, q1, q2, q3, q4, q5⟩ := HL0.out _ hSw; go_simp <;> with_reducible rfl) hHeld ?_; simp only [pqZ]
              refine tkJ 6 23 rfl (by intro w; go_simp <;> with_reducible rfl) hHeld ?_; simp only [pqZ]
              refine tkJ 7 24 rfl (by intro w; go_simp <;> with_reducible rfl) hHeld ?_; simp only [pqZ]
              refine tkJ 8 25 rfl (by intro w; go_simp <;> with_reducible rfl) hHeld ?_; simp only [pqZ]
              refine tkI 9 26 rfl (by intro w hSw; obtain ⟨z0, z1, z2, z3, z4, z5⟩ := HBF.out _ hSw; obtain ⟨q0, q1, q2, q3, q4, q5⟩ := HL0.out _ hSw; go_simp <;> with_reducible rfl) hHeld ?_; simp only [pqZ]
              refine tkJ 10 27 rfl (by intro w; go_simp <;> with_reducible rfl) hHeld ?_; simp only [pqZ]
              refine tkJ 11 28 rfl (by intro w; go_simp <;> with_reducible rfl) hHeld ?_; simp only [pqZ]
              refine tkJ 12 29 rfl (by intro w; go_simp <;> with_reducible rfl) hHeld ?_; simp only [pqZ]
              refine tkJ 13 30 rfl (by intro w; go_simp <;> with_reducible rfl) hHeld ?_; simp only [pqZ]
              refine tkI 14 31 rfl (by intro w hSw; obtain ⟨z0, z1, z2, z3, z4, z5⟩ := HBF.out _ hSw; obtain ⟨q0, q1, q2, q3, q4, q5⟩ := HL0.out _ hSw; go_simp <;> with_reducible rfl) hHeld ?_; simp only [pqZ]
              refine tkJ 15 32 rfl (by intro w; go_simp <;> with_reducible rfl) hHeld ?_; simp only [pqZ]
              refine tkJ 16 33 rfl (by intro w; go_simp <;> with_reducible rfl) hHeld ?_; simp only [pqZ]
              refine tkJ 17 34 rfl (by intro w; go_simp <;> with_reducible rfl) hHeld ?_; simp only [pqZ]
              refine tkI 18 35 rfl (by intro w hSw; obtain ⟨z0, z1, z2, z3, z4, z5⟩ := HBF.out _ hSw; obtain ⟨q0, q1, q2, q3, q4, q5⟩ := HL0.out _ hSw; go_simp <;> with_reducible rfl) hHeld ?_; simp only [pqZ]
              refine tkJ 19 36 rfl (by intro w; go_simp <;> with_reducible rfl) hHeld ?_; simp only [pqZ]
              refine tkJ 20 37 rfl (by intro w; go_simp <;> with_reducible rfl) hHeld ?_; simp only [pqZ]
              refine tkJ 21 38 rfl (by intro w; go_simp <;> with_reducible rfl) hHeld ?_; simp only [pqZ]
              refine tkO 22 39 rfl (by kernel_rfl) (by rfl) hHeld ?_; simp only [pqZ]
              refine tkO 23 40 rfl (by kernel_rfl) (by rfl) hHeld ?_; simp only [pqZ]
              refine tkO 24 41 rfl (by kernel_rfl) (by rfl) hHeld ?_; simp only [pqZ]
              refine tkO 25 42 rfl (by kernel_rfl) (by rfl) hHeld ?_; simp only [pqZ]
              refine tkO 26 43 rfl (by kernel_rfl) (by rfl) hHeld ?_; simp only [pqZ]
              refine tkO 27 44 rfl (by kernel_rfl) (by rfl) hHeld ?_; simp only [pqZ]
              refine tkO 28 45 rfl (by kernel_rfl) (by rfl) hHeld ?_; simp only [pqZ]
              refine tkJ 29 46 rfl (by intro w; go_simp <;> with_reducible rfl) hHeld ?_; simp only [pqZ]
              refine tkJ 30 47 rfl (by intro w; go_simp <;> with_reducible rfl) hHeld ?_; simp only [pqZ]
              refine tkO 31 48 rfl (by kernel_rfl) (by rfl) hHeld ?_; simp only [pqZ]
              refine tkO 32 49 rfl (by kernel_rfl) (by rfl) hHeld ?_; simp only [pqZ]
              refine tkO 33 50 rfl (by kernel_rfl) (by rfl) hHeld ?_; simp only [pqZ]
              refine tkO 34 51 rfl (by kernel_rfl) (by rfl) hHeld ?_; simp only [pqZ]
              refine tkO 35 52 rfl (by kernel_rfl) (by rfl) hHeld ?_; simp only [pqZ]
              refine tkJ 36 53 rfl (by intro w; go_simp <;> with_reducible rfl) hHeld ?_; simp only [pqZ]
              refine tkJ 37 54 rfl (by intro w; go_simp <;> with_reducible rfl) hHeld ?_; simp only [pqZ]
              refine tkO 38 55 rfl (by kernel_rfl) (by rfl) hHeld ?_; simp only [pqZ]
              refine tkO 39 56 rfl (by kernel_rfl) (by rfl) hHeld ?_; simp only [pqZ]
              refine tkO 40 57 rfl (by kernel_rfl) (by rfl) hHeld ?_; simp only [pqZ]
              refine tkO 41 58 rfl (by kernel_rfl) (by rfl) hHeld ?_; simp only [pqZ]
              refine tkJ 42 59 rfl (by intro w; go_simp <;> with_reducible rfl) hHeld ?_; simp only [pqZ]
              refine tkJ 43 60 rfl (by intro w; go_simp <;> with_reducible rfl) hHeld ?_; simp only [pqZ]
              refine tkO 44 61 rfl (by kernel_rfl) (by rfl) hHeld ?_; simp only [pqZ]
              refine tkO 45 62 rfl (by kernel_rfl) (by rfl) hHeld ?_; simp only [pqZ]
              refine tkO 46 63 rfl (by kernel_rfl) (by rfl) hHeld ?_; simp only [pqZ]
              refine tkO 47 64 rfl (by kernel_rfl) (by rfl) hHeld ?_; simp only [pqZ]
              refine tkO 48 65 rfl (by kernel_rfl) (by rfl) hHeld ?_; simp only [pqZ]
              refine tkO 49 66 rfl (by kernel_rfl) (by rfl) hHeld ?_; simp only [pqZ]
              refine tkO 50 67 rfl (by kernel_rfl) (by rfl) hHeld ?_; simp only [pqZ]
              refine tkO 51 68 rfl (by kernel_rfl) (by rfl) hHeld ?_; simp only [pqZ]
              refine tkO 52 69 rfl (by kernel_rfl) (by rfl) hHeld ?_; simp only [pqZ]
              refine tkO 53 70 rfl (by kernel_rfl) (by rfl) hHeld ?_; simp only [pqZ]
              refine tkO 54 71 rfl (by kernel_rfl) (by rfl) hHeld ?_; simp only [pqZ]
              refine tkJ 55 72 rfl (by intro w; go_simp <;> with_reducible rfl) hHeld ?_; simp only [pqZ]
              refine wpAnyH_done (by kernel_rfl) ?_ _
              have hBf := HBW.out.trans (hHeld.mono HBW.out.size)
              go_wp2_with fail
              go_ret2
              rw [HJ.out]
              exact ⟨⟨none, 0, rfl, own_nil _ _ _⟩, hBf⟩
          · have HIS : Hid (∀ V, Calls Try.prog 86 #[.agg #[.int .i64 life, .int .i64 era, .int .i64 seq, .int .i64 part, .int .i64 parts, .slice fA dl fc]] V fun e w' => e = .returned (.bool true) ∧ Below V.heap.size V w') := Lib.hid fun V => by
              have h := ris7_any ⟨life, era, seq, part, parts, D⟩ fA fc V
              unfold Fr.val at h
              simp only at h
              rw [HDL.out, hok] at h
              exact h
            have hlifen : (life != l0) = true := bne_iff_ne.2 hclife
            have HJ := Lib.hid (HBA.out (fun g => hclife g.2.1))
            clear hok HGO HBA hclife
            refine wp_region_held_drew (S := (fun V' => Below W.heap.size W V')) (by kernel_rfl) (by exact (Below.refl _ _).drew) (fun hHeld => ?_)
            refine tkI 0 17 rfl (by intro w hSw; obtain ⟨z0, z1, z2, z3, z4, z5⟩ := HBF.out _ hSw; obtain ⟨q0, q1, q2, q3, q4, q5⟩ := HL0.out _ hSw; go_simp <;> with_reducible rfl) hHeld ?_; simp only [pqZ]
            refine rdZ 1 18 rfl (by kernel_rfl) (fun K hK => ?_)
            go_simp
            refine (HIS.out _).mono ?_
            rintro e x1 ⟨rfl, hk1⟩
            have hKeep := since_step hHeld hk1
            go_wp2_with fail
            refine hK.out _ _ (by (try dsimp only); exact hKeep) (fun hHeld => ?_); clear hK K hKeep; try simp only [pqZ]
            refine tkJ 2 19 rfl (by intro w; go_simp <;> with_reducible rfl) hHeld ?_; simp only [pqZ]
            refine tkJ 3 20 rfl (by intro w; go_simp <;> with_reducible rfl) hHeld ?_; simp only [pqZ]
            refine tkJ 4 21 rfl (by intro w; go_simp <;> with_reducible rfl) hHeld ?_; simp only [pqZ]
            refine tkI 5 22 rfl (by intro w hSw; obtain ⟨z0, z1, z2, z3, z4, z5⟩ := HBF.out _ hSw; obtain ⟨q0, q1, q2, q3, q4, q5⟩ := HL0.out _ hSw; go_simp <;> with_reducible rfl) hHeld ?_; simp only [pqZ]
            refine tkJ 6 23 rfl (by intro w; go_simp <;> with_reducible rfl) hHeld ?_; simp only [pqZ]
            refine tkJ 7 24 rfl (by intro w; go_simp <;> with_reducible rfl) hHeld ?_; simp only [pqZ]
            refine tkJ 8 25 rfl (by intro w; go_simp <;> with_reducible rfl) hHeld ?_; simp only [pqZ]
            refine tkI 9 26 rfl (by intro w hSw; obtain ⟨z0, z1, z2, z3, z4, z5⟩ := HBF.out _ hSw; obtain ⟨q0, q1, q2, q3, q4, q5⟩ := HL0.out _ hSw; go_simp <;> with_reducible rfl) hHeld ?_; simp only [pqZ]
            refine tkJ 10 27 rfl (by intro w; go_simp <;> with_reducible rfl) hHeld ?_; simp only [pqZ]
            refine tkJ 11 28 rfl (by intro w; go_simp <;> with_reducible rfl) hHeld ?_; simp only [pqZ]
            refine tkJ 12 29 rfl (by intro w; go_simp <;> with_reducible rfl) hHeld ?_; simp only [pqZ]
            refine tkO 13 30 rfl (by kernel_rfl) (by rfl) hHeld ?_; simp only [pqZ]
            refine tkO 14 31 rfl (by kernel_rfl) (by rfl) hHeld ?_; simp only [pqZ]
            refine tkO 15 32 rfl (by kernel_rfl) (by rfl) hHeld ?_; simp only [pqZ]
            refine tkO 16 33 rfl (by kernel_rfl) (by rfl) hHeld ?_; simp only [pqZ]
            refine tkO 17 34 rfl (by kernel_rfl) (by rfl) hHeld ?_; simp only [pqZ]
            refine tkO 18 35 rfl (by kernel_rfl) (by rfl) hHeld ?_; simp only [pqZ]
            refine tkO 19 36 rfl (by kernel_rfl) (by rfl) hHeld ?_; simp only [pqZ]
            refine tkJ 20 37 rfl (by intro w; go_simp <;> with_reducible rfl) hHeld ?_; simp only [pqZ]
            refine tkJ 21 38 rfl (by intro w; go_simp <;> with_reducible rfl) hHeld ?_; simp only [pqZ]
            refine tkO 22 39 rfl (by kernel_rfl) (by rfl) hHeld ?_; simp only [pqZ]
            refine tkO 23 40 rfl (by kernel_rfl) (by rfl) hHeld ?_; simp only [pqZ]
            refine tkO 24 41 rfl (by kernel_rfl) (by rfl) hHeld ?_; simp only [pqZ]
            refine tkO 25 42 rfl (by kernel_rfl) (by rfl) hHeld ?_; simp only [pqZ]
            refine tkO 26 43 rfl (by kernel_rfl) (by rfl) hHeld ?_; simp only [pqZ]
            refine tkO 27 44 rfl (by kernel_rfl) (by rfl) hHeld ?_; simp only [pqZ]
            refine tkO 28 45 rfl (by kernel_rfl) (by rfl) hHeld ?_; simp only [pqZ]
            refine tkJ 29 46 rfl (by intro w; go_simp <;> with_reducible rfl) hHeld ?_; simp only [pqZ]
            refine tkJ 30 47 rfl (by intro w; go_simp <;> with_reducible rfl) hHeld ?_; simp only [pqZ]
            refine tkO 31 48 rfl (by kernel_rfl) (by rfl) hHeld ?_; simp only [pqZ]
            refine tkO 32 49 rfl (by kernel_rfl) (by rfl) hHeld ?_; simp only [pqZ]
            refine tkO 33 50 rfl (by kernel_rfl) (by rfl) hHeld ?_; simp only [pqZ]
            refine tkO 34 51 rfl (by kernel_rfl) (by rfl) hHeld ?_; simp only [pqZ]
            refine tkO 35 52 rfl (by kernel_rfl) (by rfl) hHeld ?_; simp only [pqZ]
            refine tkJ 36 53 rfl (by intro w; go_simp <;> with_reducible rfl) hHeld ?_; simp only [pqZ]
            refine tkJ 37 54 rfl (by intro w; go_simp <;> with_reducible rfl) hHeld ?_; simp only [pqZ]
            refine tkO 38 55 rfl (by kernel_rfl) (by rfl) hHeld ?_; simp only [pqZ]
            refine tkO 39 56 rfl (by kernel_rfl) (by rfl) hHeld ?_; simp only [pqZ]
            refine tkO 40 57 rfl (by kernel_rfl) (by rfl) hHeld ?_; simp only [pqZ]
            refine tkO 41 58 rfl (by kernel_rfl) (by rfl) hHeld ?_; simp only [pqZ]
            refine tkJ 42 59 rfl (by intro w; go_simp <;> with_reducible rfl) hHeld ?_; simp only [pqZ]
            refine tkJ 43 60 rfl (by intro w; go_simp <;> with_reducible rfl) hHeld ?_; simp only [pqZ]
            refine tkO 44 61 rfl (by kernel_rfl) (by rfl) hHeld ?_; simp only [pqZ]
            refine tkO 45 62 rfl (by kernel_rfl) (by rfl) hHeld ?_; simp only [pqZ]
            refine tkO 46 63 rfl (by kernel_rfl) (by rfl) hHeld ?_; simp only [pqZ]
            refine tkO 47 64 rfl (by kernel_rfl) (by rfl) hHeld ?_; simp only [pqZ]
            refine tkO 48 65 rfl (by kernel_rfl) (by rfl) hHeld ?_; simp only [pqZ]
            refine tkO 49 66 rfl (by kernel_rfl) (by rfl) hHeld ?_; simp only [pqZ]
            refine tkO 50 67 rfl (by kernel_rfl) (by rfl) hHeld ?_; simp only [pqZ]
            refine tkO 51 68 rfl (by kernel_rfl) (by rfl) hHeld ?_; simp only [pqZ]
            refine tkO 52 69 rfl (by kernel_rfl) (by rfl) hHeld ?_; simp only [pqZ]
            refine tkO 53 70 rfl (by kernel_rfl) (by rfl) hHeld ?_; simp only [pqZ]
            refine tkO 54 71 rfl (by kernel_rfl) (by rfl) hHeld ?_; simp only [pqZ]
            refine tkJ 55 72 rfl (by intro w; go_simp <;> with_reducible rfl) hHeld ?_; simp only [pqZ]
            refine wpAnyH_done (by kernel_rfl) ?_ _
            have hBf := HBW.out.trans (hHeld.mono HBW.out.size)
            go_wp2_with fail
            go_ret2
            rw [HJ.out]
            exact ⟨⟨none, 0, rfl, own_nil _ _ _⟩, hBf⟩
      · obtain rfl : k = n := by omega
        have hj := joinF_yes (L := H.map Fh.f) HZ0.out (fun j f hj => by
          have h1 := (List.getElem?_eq_some_iff.1 hj).1
          rw [List.length_map, HN.out] at h1 ⊢
          exact HA.out j f hj h1)
        have ht : (H.map Fh.f).take k = H.map Fh.f := List.take_of_length_le (by rw [List.length_map, HN.out]; exact Nat.le_refl _)
        rw [ht] at own2 ⊢
        have HJ := Lib.hid hj
        clear hj ht
        obtain ⟨P, hP⟩ : ∃ P, dataJ (H.map Fh.f) = P := ⟨_, rfl⟩
        rw [hP] at own2 HJ ⊢
        clear hP
        have hlk : ¬ ((k : Int) < (k : Int)) := by omega
        have hk0 : 0 < k := by have := H0.out; have := HN.out; omega
        go_wp2_with fail
        go_ret2
        rw [HJ.out]
        exact ⟨⟨A2, c2, rfl, own2⟩, hB⟩
  · obtain rfl : H = [] := List.eq_nil_of_length_eq_zero (by omega)
    clear hs hd
    have hj : joinF (([] : List Fh).map Fh.f) = ([], false) := rfl
    rw [hj]
    clear hj
    go_enter Try.func79, Try.ntmps79
    go_wp2_with fail
    go_loopw [4, 5] (fun bv iv wr => bv = .slice none 0 0 ∧ iv = .int .i64 0 ∧ Below w.heap.size w wr) (fun _ _ _ => 0)
    case atStart => exact ⟨rfl, rfl, Below.refl _ _⟩
    case round =>
      obtain ⟨rfl, rfl, hB⟩ := hrel
      go_wp2_with fail
      go_ret2
      refine ⟨⟨none, 0, ?_, own_nil _ _ _⟩, hB⟩
      simp
end
end Go.Proofs.Ytiggcpfmmgmncaa
