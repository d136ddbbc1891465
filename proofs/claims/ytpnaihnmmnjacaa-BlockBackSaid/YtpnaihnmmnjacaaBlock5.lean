/-
  Layer 22, fifth part: Rest of both sides, few, lives, BlockAverages (laid by gen_block5.py).
-/
import Derived.Test.YtpnaihnmmnjacaaBlock4
import Derived.Test.YtpnaihnmmnjacaaFix5
namespace Go.Proofs.Ytpnaihnmmnjacaa
open Go.ChangeShapes Go.WideShapes Go.ChangeAt Go.RowKit
set_option linter.unusedVariables false
set_option linter.unusedSimpArgs false

/-- in three ways -/
theorem avgR_cases (l : List Fi) : (∃ e, e ≠ 0 ∧ avgR l = (0, 0, 0, e)) ∨ (∃ q a r, avgR l = (q, a, r, 0) ∧ okFs l = true ∧ q = qtyL l ∧ q ≠ 0 ∧ -1099511627776 ≤ q ∧ q ≤ 1099511627776 ∧ 0 ≤ r ∧ r < (q.natAbs : Int) ∧ 0 ≤ a ∧ a ≤ 2147483647 ∧ avgC l = a * (q.natAbs : Int) + r) := by
  unfold avgR
  by_cases h : okFs l = true
  · rw [if_pos h]
    by_cases h2 : inQ (qtyL l) = true
    · rw [if_pos h2]
      have hm := avg_main h
      unfold inQ at h2
      simp only [Bool.and_eq_true, decide_eq_true_eq] at h2
      have e := Int.mul_ediv_add_emod (avgC l) ((qtyL l).natAbs : Int)
      rw [Int.mul_comm] at e
      exact .inr ⟨_, _, _, rfl, h, rfl, hm.1, h2.1, h2.2, Int.emod_nonneg _ (by omega), Int.emod_lt_of_pos _ (by omega), hm.2.2.2.2.1, hm.2.2.2.2.2, e.symm⟩
    · rw [if_neg h2]
      exact .inl ⟨25, by decide, rfl⟩
  · rw [if_neg h]
    exact .inl ⟨2, by decide, rfl⟩
def sgR (l : List Fi) : Int := if (avgR l).1 < 0 then -(avgR l).2.2.1 else (avgR l).2.2.1
def restR (m : Int) (l : List Fi) : Int × Int :=
  if (avgR l).2.2.2 ≠ 0 then (0, (avgR l).2.2.2) else if m < 1 ∨ 65536 < m then (0, 2) else (fV (sgR l * m), fE (sgR l * m))
theorem prods_two {a b : Int} (ha : In64 a) : pV [a, b] = fV (a * b) ∧ pE [a, b] = fE (a * b) := by
  have e : prods [a, b] = if In64 (a * b) then some (a * b) else none := by
    simp only [prods, List.foldl, prodStep, Int.one_mul, if_pos ha]
  unfold pV pE fV fE
  rw [e]
  split <;> exact ⟨rfl, rfl⟩
theorem few22_any (A : Option Addr) (cap : Nat) (l : List Fi) (w : World) (hc : l.length ≤ cap) (hcm : cap ≤ maxLen) (hs : Sl w A (rc Fi.cells l)) :
    Calls Try.prog 62 #[.slice A l.length cap] w fun e w' => e = .returned (.slice A (l.take 20).length cap) ∧ Below w.heap.size w w' := by
  by_cases h : 20 < l.length
  · have hl : (l.take 20).length = 20 := by simp; omega
    rw [hl]
    have h40 : 20 ≤ cap := by omega
    cases A with
    | none => obtain ⟨b, o, e, _⟩ := hs.fi (k := 0) (by omega); cases e
    | some ad =>
      go_enter Try.func62, Try.ntmps62
      go_wp2
      go_ret
      exact ⟨rfl, Below.refl _ _⟩
  · have hl : (l.take 20).length = l.length := by simp; omega
    rw [hl]
    go_enter Try.func62, Try.ntmps62
    go_wp2
    go_ret
    exact ⟨rfl, Below.refl _ _⟩
theorem lives22_any (w : World) : Calls Try.prog 67 #[] w fun e w' => e = .returned (.bool true) ∧ Below w.heap.size w w' := by
  have hA := Lib.hid (fun A W h => bavg_any A 2 [⟨3, 10⟩, ⟨4, 11⟩] W (by decide) h)
  have e : avgV [⟨3, 10⟩, ⟨4, 11⟩] = .tuple #[.int .i64 7, .int .i64 10, .int .i64 4, .int .i64 0] := by
    have h : avgR [⟨3, 10⟩, ⟨4, 11⟩] = (7, 10, 4, 0) := by decide
    unfold avgV
    rw [h]
  rw [e] at hA
  have hA : Hid (∀ A W, Sl W A (rc Fi.cells [⟨3, 10⟩, ⟨4, 11⟩]) → Calls Try.prog 63 #[.slice A 2 2] W fun e w' => e = .returned (.tuple #[.int .i64 7, .int .i64 10, .int .i64 4, .int .i64 0]) ∧ Below W.heap.size W w') := hA
  clear e
  have hsl := Sl.new_ w (rc Fi.cells [⟨3, 10⟩, ⟨4, 11⟩]) 117
  have HS : Hid (Sl (w.alloc (.cells #[.int .i64 3, .int .i64 10, .int .i64 4, .int .i64 11] 117)) (some ⟨w.heap.size, 0, none⟩) (rc Fi.cells [⟨3, 10⟩, ⟨4, 11⟩])) := Lib.hid hsl
  have hB := since_alloc (Below.refl _ w) (.cells #[.int .i64 3, .int .i64 10, .int .i64 4, .int .i64 11] 117)
  clear hsl
  go_enter Try.func67, Try.ntmps67
  go_wp2_with fail
  refine (hA.out _ _ HS.out).mono ?_
  rintro e w1 ⟨rfl, hb1⟩
  have hB1 := since_step hB hb1
  go_wp2_with fail
  go_ret
  exact ⟨rfl, hB1⟩

set_option maxHeartbeats 4000000 in
set_option maxRecDepth 100000 in
theorem brest_any (m : Int) (hm : In64 m) (A : Option Addr) (cap : Nat) (l : List Fi) (w : World) (hl : l.length ≤ 1000000) (hs : Sl w A (rc Fi.cells l)) :
    Calls Try.prog 65 #[.int .i64 m, .slice A l.length cap] w fun e w' => e = .returned (.tuple #[.int .i64 (restR m l).1, .int .i64 (restR m l).2]) ∧ Below w.heap.size w w' := by
  obtain ⟨RV, hRV⟩ : ∃ v : Value, v = .tuple #[.int .i64 (restR m l).1, .int .i64 (restR m l).2] := ⟨_, rfl⟩
  rw [← hRV]
  have HA := Lib.hid (fun W h => bavg_any A cap l W hl h)
  unfold avgV at HA
  rcases avgR_cases l with ⟨e, he, hE⟩ | ⟨q, a, r, hE, _, _, q0, q1, q2, r0, r1, _, _, _⟩
  · have HE : Hid (RV = .tuple #[.int .i64 0, .int .i64 e]) := Lib.hid (by rw [hRV, restR, hE, if_pos he])
    rw [hE] at HA
    have hne : (e == 0) = false := by simpa using he
    clear hE hRV
    go_enter Try.func65, Try.ntmps65
    go_wp2_with fail
    refine (HA.out _ hs).mono ?_
    rintro e' w1 ⟨rfl, hb1⟩
    go_wp2_with fail
    go_ret2
    rw [HE.out]; exact ⟨rfl, hb1⟩
  · have hR1 : RV = if m < 1 ∨ 65536 < m then .tuple #[.int .i64 0, .int .i64 2] else .tuple #[.int .i64 (fV ((if q < 0 then -r else r) * m)), .int .i64 (fE ((if q < 0 then -r else r) * m))] := by
      rw [hRV, restR, sgR, hE]
      simp only [ne_eq, not_true_eq_false, if_false]
      split <;> rfl
    rw [hE] at HA
    have HR := Lib.hid hR1
    clear hE hRV hR1
    by_cases c1 : m < 1
    · have HE := HR.out
      rw [if_pos (.inl c1)] at HE
      have HE := Lib.hid HE
      clear HR
      go_enter Try.func65, Try.ntmps65
      go_wp2_with fail
      refine (HA.out _ hs).mono ?_
      rintro e' w1 ⟨rfl, hb1⟩
      go_wp2_with fail
      go_ret2
      rw [HE.out]; exact ⟨rfl, hb1⟩
    by_cases c2 : 65536 < m
    · have HE := HR.out
      rw [if_pos (.inr c2)] at HE
      have HE := Lib.hid HE
      clear HR
      go_enter Try.func65, Try.ntmps65
      go_wp2_with fail
      refine (HA.out _ hs).mono ?_
      rintro e' w1 ⟨rfl, hb1⟩
      go_wp2_with fail
      go_ret2
      rw [HE.out]; exact ⟨rfl, hb1⟩
    have HE := HR.out
    rw [if_neg (by omega)] at HE
    by_cases c3 : q < 0
    · rw [if_pos c3] at HE
      have HE := Lib.hid HE
      have hnw : IntKind.i64.wrap (-r) = -r := IntWalk.i64_in _ (by omega)
      have hnr : In64 (-r) := by unfold In64; omega
      clear HR r0 r1 q0 q1 q2
      go_enter Try.func65, Try.ntmps65
      go_wp2_with fail
      refine (HA.out _ hs).mono ?_
      rintro e' w1 ⟨rfl, hb1⟩
      go_wp2_with fail
      have hp2 := prods_two (b := m) hnr
      have HS := Sl.new_ w1 (ints .i64 [(-r), m]) 2
      refine (fprod_any _ 2 [(-r), m] _ (by simp) (by intro y hy; simp at hy; rcases hy with rfl | rfl <;> assumption) HS).mono ?_
      rw [hp2.1, hp2.2]
      rintro e' w2 ⟨rfl, hb2⟩
      have hB2 := since_step (since_alloc hb1 _) hb2
      go_wp2_with fail
      go_ret2
      rw [HE.out]; exact ⟨rfl, hB2⟩
    · rw [if_neg c3] at HE
      have HE := Lib.hid HE
      have hnr : In64 r := by unfold In64; omega
      clear HR r0 r1 q0 q1 q2
      go_enter Try.func65, Try.ntmps65
      go_wp2_with fail
      refine (HA.out _ hs).mono ?_
      rintro e' w1 ⟨rfl, hb1⟩
      go_wp2_with fail
      have hp2 := prods_two (b := m) hnr
      have HS := Sl.new_ w1 (ints .i64 [r, m]) 2
      refine (fprod_any _ 2 [r, m] _ (by simp) (by intro y hy; simp at hy; rcases hy with rfl | rfl <;> assumption) HS).mono ?_
      rw [hp2.1, hp2.2]
      rintro e' w2 ⟨rfl, hb2⟩
      have hB2 := since_step (since_alloc hb1 _) hb2
      go_wp2_with fail
      go_ret2
      rw [HE.out]; exact ⟨rfl, hB2⟩

set_option maxHeartbeats 4000000 in
set_option maxRecDepth 100000 in
theorem brrest_any (m : Int) (hm : In64 m) (A : Option Addr) (cap : Nat) (l : List Fi) (w : World) (hl : l.length ≤ 1000000) (hs : Sl w A (rc Fi.cells l)) :
    Calls Try.prog 66 #[.int .i64 m, .slice A l.length cap] w fun e w' => e = .returned (.tuple #[.int .i64 (restR m l).1, .int .i64 (restR m l).2]) ∧ Below w.heap.size w w' := by
  obtain ⟨RV, hRV⟩ : ∃ v : Value, v = .tuple #[.int .i64 (restR m l).1, .int .i64 (restR m l).2] := ⟨_, rfl⟩
  rw [← hRV]
  have HA := Lib.hid (fun W h => bravg_any A cap l W hl h)
  unfold avgV at HA
  rcases avgR_cases l with ⟨e, he, hE⟩ | ⟨q, a, r, hE, _, _, q0, q1, q2, r0, r1, _, _, _⟩
  · have HE : Hid (RV = .tuple #[.int .i64 0, .int .i64 e]) := Lib.hid (by rw [hRV, restR, hE, if_pos he])
    rw [hE] at HA
    have hne : (e == 0) = false := by simpa using he
    clear hE hRV
    go_enter Try.func66, Try.ntmps66
    go_wp2_with fail
    refine (HA.out _ hs).mono ?_
    rintro e' w1 ⟨rfl, hb1⟩
    go_wp2_with fail
    go_ret2
    rw [HE.out]; exact ⟨rfl, hb1⟩
  · have hR1 : RV = if m < 1 ∨ 65536 < m then .tuple #[.int .i64 0, .int .i64 2] else .tuple #[.int .i64 (fV ((if q < 0 then -r else r) * m)), .int .i64 (fE ((if q < 0 then -r else r) * m))] := by
      rw [hRV, restR, sgR, hE]
      simp only [ne_eq, not_true_eq_false, if_false]
      split <;> rfl
    rw [hE] at HA
    have HR := Lib.hid hR1
    clear hE hRV hR1
    by_cases c1 : m < 1
    · have HE := HR.out
      rw [if_pos (.inl c1)] at HE
      have HE := Lib.hid HE
      clear HR
      go_enter Try.func66, Try.ntmps66
      go_wp2_with fail
      refine (HA.out _ hs).mono ?_
      rintro e' w1 ⟨rfl, hb1⟩
      go_wp2_with fail
      go_ret2
      rw [HE.out]; exact ⟨rfl, hb1⟩
    by_cases c2 : 65536 < m
    · have HE := HR.out
      rw [if_pos (.inr c2)] at HE
      have HE := Lib.hid HE
      clear HR
      go_enter Try.func66, Try.ntmps66
      go_wp2_with fail
      refine (HA.out _ hs).mono ?_
      rintro e' w1 ⟨rfl, hb1⟩
      go_wp2_with fail
      go_ret2
      rw [HE.out]; exact ⟨rfl, hb1⟩
    have HE := HR.out
    rw [if_neg (by omega)] at HE
    by_cases c3 : q < 0
    · rw [if_pos c3] at HE
      have HE := Lib.hid HE
      have hnw : IntKind.i64.wrap (-r) = -r := IntWalk.i64_in _ (by omega)
      have hnr : In64 (-r) := by unfold In64; omega
      clear HR r0 r1 q0 q1 q2
      go_enter Try.func66, Try.ntmps66
      go_wp2_with fail
      refine (HA.out _ hs).mono ?_
      rintro e' w1 ⟨rfl, hb1⟩
      go_wp2_with fail
      refine (bof_any (-r) _ hnr).mono ?_
      rintro e' w2 ⟨⟨s2, A2, n2, d2, rfl, hf2, Y2⟩, hb2⟩
      have L2 := Y2.l64 hnr
      have hB2 := since_step hb1 hb2
      go_wp2_with fail
      refine (bof_any m _ hm).mono ?_
      rintro e' w3 ⟨⟨s3, A3, n3, d3, rfl, hf3, Y3⟩, hb3⟩
      have L3 := Y3.l64 hm
      have Y2 := Y2.below hb3
      have hB3 := since_step hB2 hb3
      clear hb3 hb2 hB2
      go_wp2_with fail
      refine (bmul_any _ _ _ _ _ _ _ _ _ _ _ (by omega) (by omega) Y2 Y3).mono ?_
      rintro e' w4 ⟨⟨s4, A4, n4, d4, rfl, hf4, Y4⟩, hb4⟩
      have L4 := len_mul Y2 Y3 Y4
      have hB4 := since_step hB3 hb4
      have G4 := BB.new w4 s4 A4 n4 d4 69
      have Y5 := Y4.alloc (.cells #[.bool s4, .slice A4 n4 d4] 69)
      have hB5 := since_alloc hB4 (.cells #[.bool s4, .slice A4 n4 d4] 69)
      clear hb4 hB3 Y2 Y3
      obtain ⟨f, hf⟩ : ∃ f, decide (inN ((-r) * m) 63) = f := ⟨_, rfl⟩
      have HFT : Hid (∀ W, BigAt W s4 A4 n4 d4 ((-r) * m) → Calls Try.prog 108 #[.agg #[.bool s4, .slice A4 n4 d4]] W fun e w' => e = .returned (.bool f) ∧ Below W.heap.size W w') := Lib.hid (fun W h => by
        have h9 := bfits_any ((-r) * m) s4 A4 n4 d4 W (by omega) h
        rw [hf] at h9
        exact h9)
      have hff : (f = true ∧ In64 ((-r) * m)) ∨ (f = false ∧ ¬ In64 ((-r) * m)) := by
        cases f with
        | true => exact .inl ⟨rfl, (inN_63 _).1 (of_decide_eq_true hf)⟩
        | false => exact .inr ⟨rfl, fun h => of_decide_eq_false hf ((inN_63 _).2 h)⟩
      clear hf
      rcases hff with ⟨rfl, hin⟩ | ⟨rfl, hin⟩
      · have HE := HE.out
        rw [show fV ((-r) * m) = (-r) * m from if_pos hin, show fE ((-r) * m) = 0 from if_pos hin] at HE
        have HE := Lib.hid HE
        obtain ⟨g0, g1, g2, g3, g4⟩ := id G4
        go_wp2_with fail
        refine (HFT.out _ Y5).mono ?_
        rintro e' w5 ⟨rfl, hb5⟩
        have Y5 := Y5.below hb5
        have G4 := G4.below hb5
        have hB6 := since_step hB5 hb5
        clear g0 g1 g2 g3 g4 hb5
        obtain ⟨g0, g1, g2, g3, g4⟩ := id G4
        go_wp2_with fail
        refine (rint_any _ hin _ _ _ _ _ Y5).mono ?_
        rintro e' w6 ⟨rfl, hb6⟩
        have hB7 := since_step hB6 hb6
        go_wp2_with fail
        go_ret2
        rw [HE.out]; exact ⟨rfl, hB7⟩
      · have HE := HE.out
        rw [show fV ((-r) * m) = 0 from if_neg hin, show fE ((-r) * m) = 7 from if_neg hin] at HE
        have HE := Lib.hid HE
        obtain ⟨g0, g1, g2, g3, g4⟩ := id G4
        go_wp2_with fail
        refine (HFT.out _ Y5).mono ?_
        rintro e' w5 ⟨rfl, hb5⟩
        have hB6 := since_step hB5 hb5
        go_wp2_with fail
        go_ret2
        rw [HE.out]; exact ⟨rfl, hB6⟩
    · rw [if_neg c3] at HE
      have HE := Lib.hid HE
      have hnr : In64 r := by unfold In64; omega
      clear HR r0 r1 q0 q1 q2
      go_enter Try.func66, Try.ntmps66
      go_wp2_with fail
      refine (HA.out _ hs).mono ?_
      rintro e' w1 ⟨rfl, hb1⟩
      go_wp2_with fail
      refine (bof_any r _ hnr).mono ?_
      rintro e' w2 ⟨⟨s2, A2, n2, d2, rfl, hf2, Y2⟩, hb2⟩
      have L2 := Y2.l64 hnr
      have hB2 := since_step hb1 hb2
      go_wp2_with fail
      refine (bof_any m _ hm).mono ?_
      rintro e' w3 ⟨⟨s3, A3, n3, d3, rfl, hf3, Y3⟩, hb3⟩
      have L3 := Y3.l64 hm
      have Y2 := Y2.below hb3
      have hB3 := since_step hB2 hb3
      clear hb3 hb2 hB2
      go_wp2_with fail
      refine (bmul_any _ _ _ _ _ _ _ _ _ _ _ (by omega) (by omega) Y2 Y3).mono ?_
      rintro e' w4 ⟨⟨s4, A4, n4, d4, rfl, hf4, Y4⟩, hb4⟩
      have L4 := len_mul Y2 Y3 Y4
      have hB4 := since_step hB3 hb4
      have G4 := BB.new w4 s4 A4 n4 d4 69
      have Y5 := Y4.alloc (.cells #[.bool s4, .slice A4 n4 d4] 69)
      have hB5 := since_alloc hB4 (.cells #[.bool s4, .slice A4 n4 d4] 69)
      clear hb4 hB3 Y2 Y3
      obtain ⟨f, hf⟩ : ∃ f, decide (inN (r * m) 63) = f := ⟨_, rfl⟩
      have HFT : Hid (∀ W, BigAt W s4 A4 n4 d4 (r * m) → Calls Try.prog 108 #[.agg #[.bool s4, .slice A4 n4 d4]] W fun e w' => e = .returned (.bool f) ∧ Below W.heap.size W w') := Lib.hid (fun W h => by
        have h9 := bfits_any (r * m) s4 A4 n4 d4 W (by omega) h
        rw [hf] at h9
        exact h9)
      have hff : (f = true ∧ In64 (r * m)) ∨ (f = false ∧ ¬ In64 (r * m)) := by
        cases f with
        | true => exact .inl ⟨rfl, (inN_63 _).1 (of_decide_eq_true hf)⟩
        | false => exact .inr ⟨rfl, fun h => of_decide_eq_false hf ((inN_63 _).2 h)⟩
      clear hf
      rcases hff with ⟨rfl, hin⟩ | ⟨rfl, hin⟩
      · have HE := HE.out
        rw [show fV (r * m) = r * m from if_pos hin, show fE (r * m) = 0 from if_pos hin] at HE
        have HE := Lib.hid HE
        obtain ⟨g0, g1, g2, g3, g4⟩ := id G4
        go_wp2_with fail
        refine (HFT.out _ Y5).mono ?_
        rintro e' w5 ⟨rfl, hb5⟩
        have Y5 := Y5.below hb5
        have G4 := G4.below hb5
        have hB6 := since_step hB5 hb5
        clear g0 g1 g2 g3 g4 hb5
        obtain ⟨g0, g1, g2, g3, g4⟩ := id G4
        go_wp2_with fail
        refine (rint_any _ hin _ _ _ _ _ Y5).mono ?_
        rintro e' w6 ⟨rfl, hb6⟩
        have hB7 := since_step hB6 hb6
        go_wp2_with fail
        go_ret2
        rw [HE.out]; exact ⟨rfl, hB7⟩
      · have HE := HE.out
        rw [show fV (r * m) = 0 from if_neg hin, show fE (r * m) = 7 from if_neg hin] at HE
        have HE := Lib.hid HE
        obtain ⟨g0, g1, g2, g3, g4⟩ := id G4
        go_wp2_with fail
        refine (HFT.out _ Y5).mono ?_
        rintro e' w5 ⟨rfl, hb5⟩
        have hB6 := since_step hB5 hb5
        go_wp2_with fail
        go_ret2
        rw [HE.out]; exact ⟨rfl, hB6⟩

theorem rd_frow {w : World} {r : List Value} (h : Rd w (.cat (.int .i64) (.cat (.int .i64) .nil)) r) : ∃ g : Fi, r = g.cells := by
  obtain ⟨p, q, rfl, ⟨a, rfl, _⟩, ⟨p2, q2, rfl, ⟨b, rfl, _⟩, rfl⟩⟩ := h
  exact ⟨⟨a, b⟩, rfl⟩
set_option maxHeartbeats 4000000 in
set_option maxRecDepth 100000 in
theorem walk_BlockAverages (a0 : Option Addr) (n0 c0 : Nat) (a1 : Int) (w : World) (w0 : Rd w (.sl (.cat (.int .i64) (.cat (.int .i64) .nil))) [.slice a0 n0 c0]) (w1 : (Lit.int .i64 a1).wf = true) :
    Calls Try.prog 10 #[.slice a0 n0 c0, .int .i64 a1] w fun e w' => e = .returned (.bool true) ∧ Below w.heap.size w w' := by
  obtain ⟨l0, rfl, hn, hcm, hsl⟩ := rd_rows (f := Fi.cells) (fun r => rd_frow) w0
  have hm := bd_i64 w1
  have hs := by
    have h := hsl.take (20 * 2)
    rw [rc_take Fi.len] at h
    exact h
  have HFW := Lib.hid (fun W h => few22_any a0 c0 l0 W hn hcm h)
  have HSL := Lib.hid hsl
  have hl : (l0.take 20).length ≤ 20 := by simp; omega
  clear w0 w1 hsl
  generalize l0.take 20 = l at *
  have HA := Lib.hid (fun W h => bavg_any a0 c0 l W (by omega) h)
  have HB := Lib.hid (fun W h => bravg_any a0 c0 l W (by omega) h)
  have HC := Lib.hid (fun W h => brest_any a1 hm a0 c0 l W (by omega) h)
  have HD := Lib.hid (fun W h => brrest_any a1 hm a0 c0 l W (by omega) h)
  unfold avgV at HA HB
  generalize (avgR l).1 = q at *
  generalize (avgR l).2.1 = a at *
  generalize (avgR l).2.2.1 = r at *
  generalize (avgR l).2.2.2 = x at *
  generalize (restR a1 l).1 = y at *
  generalize (restR a1 l).2 = z at *
  have b1 : (q == q) = true := by simp
  have b2 : (a == a) = true := by simp
  have b3 : (r == r) = true := by simp
  have b4 : (x == x) = true := by simp
  have b5 : (y == y) = true := by simp
  have b6 : (z == z) = true := by simp
  go_enter Try.func10, Try.ntmps10
  go_wp2_with fail
  refine (HFW.out _ HSL.out).mono ?_
  rintro e w1 ⟨rfl, hb1⟩
  have hs := hs.below hb1
  go_wp2_with fail
  refine (HA.out _ hs).mono ?_
  rintro e w2 ⟨rfl, hb2⟩
  have hs := hs.below hb2
  have hB2 := since_step hb1 hb2
  go_wp2_with fail
  refine (HB.out _ hs).mono ?_
  rintro e w3 ⟨rfl, hb3⟩
  have hs := hs.below hb3
  have hB3 := since_step hB2 hb3
  go_wp2_with fail
  refine (HC.out _ hs).mono ?_
  rintro e w4 ⟨rfl, hb4⟩
  have hs := hs.below hb4
  have hB4 := since_step hB3 hb4
  go_wp2_with fail
  refine (HD.out _ hs).mono ?_
  rintro e w5 ⟨rfl, hb5⟩
  have hB5 := since_step hB4 hb5
  go_wp2_with fail
  refine (lives22_any _).mono ?_
  rintro e w6 ⟨rfl, hb6⟩
  have hB6 := since_step hB5 hb6
  go_wp2_with fail
  go_ret
  exact ⟨rfl, hB6⟩
end Go.Proofs.Ytpnaihnmmnjacaa
