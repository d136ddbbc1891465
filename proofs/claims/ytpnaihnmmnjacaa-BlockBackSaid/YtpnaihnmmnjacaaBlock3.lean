/-
  Layer 22, third part: Average (laid by gen_block3.py).
-/
import Derived.Test.YtpnaihnmmnjacaaBlock2
import Derived.Test.YtpnaihnmmnjacaaW1
namespace Go.Proofs.Ytpnaihnmmnjacaa
open Go.ChangeShapes Go.WideShapes Go.ChangeAt Go.RowKit
set_option linter.unusedVariables false
set_option linter.unusedSimpArgs false

theorem results_tmp4 {fn : Func} {t u v x : Tmp} (h : fn.results = #[.tmp t, .tmp u, .tmp v, .tmp x]) (tmps : Array Value) (P : Program) (w : World) :
    (results fn tmps).run P w = .ok (.tuple #[tmps.getD t undef, tmps.getD u undef, tmps.getD v undef, tmps.getD x undef]) w := by
  simp [results, h]
theorem cost_pos (lo hi : Int) : ∀ (l : List Fi), (∀ f ∈ l, 0 < f.qty ∧ lo ≤ f.pr ∧ f.pr ≤ hi) → (l.length : Int) ≤ qtyL l ∧ lo * qtyL l ≤ costL l ∧ costL l ≤ hi * qtyL l
  | [], _ => by simp [qtyL, costL]
  | f :: l, h => by
    obtain ⟨i1, i2, i3⟩ := cost_pos lo hi l (fun g hg => h g (List.mem_cons_of_mem _ hg))
    obtain ⟨h1, h2, h3⟩ := h f List.mem_cons_self
    have e : qtyL (f :: l) = f.qty + qtyL l := by simp [qtyL]
    have e2 : costL (f :: l) = f.qty * f.pr + costL l := by simp [costL]
    have a1 : lo * f.qty ≤ f.pr * f.qty := Int.mul_le_mul_of_nonneg_right h2 (by omega)
    have a2 : f.pr * f.qty ≤ hi * f.qty := Int.mul_le_mul_of_nonneg_right h3 (by omega)
    have c : f.qty * f.pr = f.pr * f.qty := Int.mul_comm _ _
    rw [e, e2, Int.mul_add, Int.mul_add, c]
    simp only [List.length_cons]
    omega
theorem cost_neg (lo hi : Int) : ∀ (l : List Fi), (∀ f ∈ l, f.qty < 0 ∧ lo ≤ f.pr ∧ f.pr ≤ hi) → qtyL l ≤ -(l.length : Int) ∧ hi * qtyL l ≤ costL l ∧ costL l ≤ lo * qtyL l
  | [], _ => by simp [qtyL, costL]
  | f :: l, h => by
    obtain ⟨i1, i2, i3⟩ := cost_neg lo hi l (fun g hg => h g (List.mem_cons_of_mem _ hg))
    obtain ⟨h1, h2, h3⟩ := h f List.mem_cons_self
    have e : qtyL (f :: l) = f.qty + qtyL l := by simp [qtyL]
    have e2 : costL (f :: l) = f.qty * f.pr + costL l := by simp [costL]
    have a1 : lo * -f.qty ≤ f.pr * -f.qty := Int.mul_le_mul_of_nonneg_right h2 (by omega)
    have a2 : f.pr * -f.qty ≤ hi * -f.qty := Int.mul_le_mul_of_nonneg_right h3 (by omega)
    have c : f.qty * f.pr = f.pr * f.qty := Int.mul_comm _ _
    rw [Int.mul_neg, Int.mul_neg] at a1 a2
    rw [e, e2, Int.mul_add, Int.mul_add, c]
    simp only [List.length_cons]
    omega
/-- what fills that may be are -/
theorem okFs_all {l : List Fi} (h : okFs l = true) : 1 ≤ l.length ∧ l.length ≤ 16 ∧ ∀ f ∈ l, okE (l.headD Fi.zero).qty f = true := by
  unfold okFs at h
  simp only [Bool.and_eq_true, decide_eq_true_eq, List.all_eq_true] at h
  exact ⟨h.1.1, h.1.2, h.2⟩
theorem okE_sg {q0 : Int} {f : Fi} (h : okE q0 f = true) : okF f = true ∧ decide (0 < f.qty) = decide (0 < q0) := by
  unfold okE at h
  simp only [Bool.and_eq_true, beq_iff_eq] at h
  exact h
/-- on one side -/
theorem okFs_side {l : List Fi} (h : okFs l = true) : (∀ f ∈ l, 0 < f.qty) ∨ (∀ f ∈ l, f.qty < 0) := by
  obtain ⟨h1, h2, h3⟩ := okFs_all h
  by_cases hq : 0 < (l.headD Fi.zero).qty
  · refine .inl fun f hf => ?_
    have := (okE_sg (h3 f hf)).2
    simp only [hq, decide_true, decide_eq_true_eq] at this
    exact this
  · refine .inr fun f hf => ?_
    have h4 := (okE_sg (h3 f hf)).2
    have h5 := okF_bd (okE_sg (h3 f hf)).1
    simp only [hq, decide_false, decide_eq_false_iff_not] at h4
    omega
def avgC (l : List Fi) : Int := if qtyL l < 0 then -costL l else costL l
def avgR (l : List Fi) : Int × Int × Int × Int :=
  if okFs l = true then (if inQ (qtyL l) = true then (qtyL l, avgC l / ((qtyL l).natAbs : Int), avgC l % ((qtyL l).natAbs : Int), 0) else (0, 0, 0, 25)) else (0, 0, 0, 2)
def avgV (l : List Fi) : Value := .tuple #[.int .i64 (avgR l).1, .int .i64 (avgR l).2.1, .int .i64 (avgR l).2.2.1, .int .i64 (avgR l).2.2.2]
/-- what there is where there is an average -/
theorem avg_main {l : List Fi} (h : okFs l = true) : qtyL l ≠ 0 ∧ 0 < (qtyL l).natAbs ∧ 0 ≤ avgC l ∧ avgC l ≤ 2147483647 * ((qtyL l).natAbs : Int) ∧ 0 ≤ avgC l / ((qtyL l).natAbs : Int) ∧ avgC l / ((qtyL l).natAbs : Int) ≤ 2147483647 := by
  have ha := okFs_all h
  have key : qtyL l ≠ 0 ∧ 0 ≤ avgC l ∧ avgC l ≤ 2147483647 * ((qtyL l).natAbs : Int) := by
    have hb : ∀ f ∈ l, 0 ≤ f.pr ∧ f.pr ≤ 2147483647 := fun f hf => by
      have := okF_bd (okE_sg (ha.2.2 f hf)).1
      exact ⟨this.1, this.2.1⟩
    rcases okFs_side h with hs | hs
    · obtain ⟨h1, h2, h3⟩ := cost_pos 0 2147483647 l (fun f hf => ⟨hs f hf, hb f hf⟩)
      unfold avgC
      rw [if_neg (by omega)]
      omega
    · obtain ⟨h1, h2, h3⟩ := cost_neg 0 2147483647 l (fun f hf => ⟨hs f hf, hb f hf⟩)
      unfold avgC
      rw [if_pos (by omega)]
      omega
  obtain ⟨k1, k2, k3⟩ := key
  refine ⟨k1, by omega, k2, k3, Int.ediv_nonneg k2 (by omega), ?_⟩
  exact Int.ediv_le_of_le_mul (by omega) k3

set_option maxHeartbeats 8000000 in
set_option maxRecDepth 100000 in
theorem bavg_any (A : Option Addr) (cap : Nat) (l : List Fi) (w : World) (hl : l.length ≤ 1000000) (hs : Sl w A (rc Fi.cells l)) :
    Calls Try.prog 63 #[.slice A l.length cap] w fun e w' => e = .returned (avgV l) ∧ Below w.heap.size w w' := by
  have HCK := Lib.hid (fun W h => bcheck_any A cap l W hl h)
  obtain ⟨RV, hRV⟩ : ∃ v : Value, v = avgV l := ⟨_, rfl⟩
  rw [← hRV]
  have HRV := Lib.hid hRV
  clear hRV
  by_cases hok : okFs l = true
  rotate_left
  · have HE : Hid (RV = .tuple #[.int .i64 0, .int .i64 0, .int .i64 0, .int .i64 2]) := Lib.hid (by rw [HRV.out, avgV, avgR, if_neg hok])
    have HI : Hid ((if okFs l = true then (0 : Int) else 2) = 2) := Lib.hid (if_neg hok)
    clear hok
    go_enter Try.func63, Try.ntmps63
    go_wp2_with fail
    refine (HCK.out _ hs).mono ?_
    rintro e w1 ⟨rfl, hb1⟩
    rw [HI.out]
    go_wp2_with fail
    (try simp only [Exit.inBlock, Exit.then]); refine bodyPost_ret (results_tmp4 rfl _ _ _) rfl ?_
    rw [HE.out]; exact ⟨rfl, hb1⟩
  have HI : Hid ((if okFs l = true then (0 : Int) else 2) = 0) := Lib.hid (if_pos hok)
  obtain ⟨n1, n16, hall⟩ := okFs_all hok
  have hallF : ∀ f ∈ l, okF f = true := fun f hf => (okE_sg (hall f hf)).1
  have hmain := avg_main hok
  have HQB : Hid (∀ k, k < l.length → IntKind.i64.wrap (qtyL (l.take k) + (l[k]?.getD Fi.zero).qty) = qtyL (l.take (k + 1))) := Lib.hid (fun k hk => by
    have e := qtyL_take l k hk
    have h := qtyL_bd (l.take (k + 1)) (fun f hf => hallF f (List.mem_of_mem_take hf))
    have hlen : (l.take (k + 1)).length ≤ 16 := by simp; omega
    rw [List.getElem?_eq_getElem hk, Option.getD_some, ← e]
    exact IntWalk.i64_in _ (by omega))
  have hcin := costL_in hallF (by omega)
  have hqb := qtyL_bd l hallF
  have HCO := Lib.hid (fun W h => bcosts_any A cap l W (by omega) hallF h)
  obtain ⟨q, hq⟩ : ∃ q, inQ (qtyL l) = q := ⟨_, rfl⟩
  have HW : Hid (∀ W, Calls Try.prog 122 #[.int .i64 (qtyL l)] W fun e w' => e = .returned (.bool q) ∧ w' = W) := Lib.hid (fun W => by have h := bwithin22 (qtyL l) W; rw [hq] at h; exact h)
  have HR : Hid (RV = if q = true then .tuple #[.int .i64 (qtyL l), .int .i64 (avgC l / ((qtyL l).natAbs : Int)), .int .i64 (avgC l % ((qtyL l).natAbs : Int)), .int .i64 0] else .tuple #[.int .i64 0, .int .i64 0, .int .i64 0, .int .i64 25]) := Lib.hid (by
    rw [HRV.out, avgV, avgR, if_pos hok, hq]
    cases q <;> rfl)
  clear hok hall hallF hq HRV
  go_enter Try.func63, Try.ntmps63
  go_wp2_with fail
  refine (HCK.out _ hs).mono ?_
  rintro e w1 ⟨rfl, hb1⟩
  have hs1 := hs.below hb1
  rw [HI.out]
  clear HI HCK hs
  go_wp2_with fail
  go_loopw [7, 23] (fun a i wr => ∃ k : Nat, k ≤ l.length ∧ i = .int .i64 k ∧ a = .int .i64 (qtyL (l.take k)) ∧ Below w1.heap.size w1 wr) (fun _ i _ => l.length - (intOf i).toNat)
  case atStart => exact ⟨0, by omega, rfl, by simp [qtyL], Below.refl _ _⟩
  case round =>
    obtain ⟨k, hk, rfl, rfl, hB⟩ := hrel
    have hB1 := hb1.trans (hB.mono hb1.size)
    by_cases hlt : k < l.length
    · obtain ⟨b, o, rfl, hbw, hg⟩ := hs1.fi hlt
      have hg1 : l[k].at wr b (o + k * 2) := Fi.at_keep (w := w1) hg fun i => hB.cell (p := ⟨b, i, none⟩) hbw
      have hlk : (k : Int) < (l.length : Int) := by omega
      have hwr := HQB.out k hlt
      rw [List.getElem?_eq_getElem hlt, Option.getD_some] at hwr
      have HWR := Lib.hid hwr
      obtain ⟨p0, p1⟩ := hg1
      clear hg hs1 hmain hwr hqb
      generalize l[k] = v at *
      obtain ⟨q1, p⟩ := v
      simp only at p0 p1 HWR
      have hB2 := since_alloc hB (.cells #[.int .i64 q1, .int .i64 p] 117)
      generalize qtyL (l.take k) = y at *
      obtain ⟨y1, hy1⟩ : ∃ y1, qtyL (l.take (k + 1)) = y1 := ⟨_, rfl⟩
      rw [hy1] at HWR
      have HY := Lib.hid hy1
      clear hy1
      have hwr := HWR.out
      go_wp2_with fail
      go_roundw
      case rel => exact ⟨k + 1, by omega, by go_num, by rw [HY.out], hB2⟩
      case measure => simp [intOf]; omega
    · obtain rfl : k = l.length := by omega
      have hs2 := hs1.below hB
      rw [List.take_length] at *
      clear HQB hs1
      generalize hQ : qtyL l = Q at *
      go_wp2_with fail
      refine (HW.out _).mono ?_
      rintro e w2 ⟨rfl, rfl⟩
      cases q with
      | false =>
        have HE := HR.out
        rw [if_neg (by decide)] at HE
        have HE := Lib.hid HE
        clear HR
        go_wp2_with fail
        (try simp only [Exit.inBlock, Exit.then]); refine bodyPost_ret (results_tmp4 rfl _ _ _) rfl ?_
        rw [HE.out]; exact ⟨rfl, hB1⟩
      | true =>
        have HE := HR.out
        rw [if_pos rfl] at HE
        have HE := Lib.hid HE
        clear HR
        go_wp2_with fail
        refine (HCO.out _ hs2).mono ?_
        rintro e w3 ⟨rfl, hb3⟩
        have hB3 := since_step hB1 hb3
        obtain ⟨m1, m2, m3, m4, m5, m6⟩ := hmain
        have hcs := @cell_set
        clear HCO HW hs2 hb3
        rcases Int.lt_or_gt_of_ne m1 with hneg | hpos
        · have hC : avgC l = -costL l := by unfold avgC; rw [hQ, if_pos hneg]
          have hd : ((Q.natAbs : Nat) : Int) = -Q := by omega
          have HD := Lib.hid hd
          have hin : In128 (-costL l) := by unfold In128 at *; omega
          have HNG := Lib.hid (fun W => wneg_any (costL l) hcin W)
          rw [wideE_yes hin] at HNG
          rw [hC] at HE m3 m4 m5 m6
          have hnw : IntKind.i64.wrap (-Q) = (Q.natAbs : Int) := by rw [hd]; exact IntWalk.i64_in _ (by omega)
          have HDV := Lib.hid (fun W => wdiv_pos (-costL l) Q.natAbs hin m2 (by omega) W)
          have HIN : Hid (∀ W, Calls Try.prog 126 #[.agg #[.int .i64 (hiN (-costL l / (Q.natAbs : Int))), .int .u64 (loN (-costL l / (Q.natAbs : Int)))]] W fun e w' => e = .returned (.tuple #[.int .i64 (-costL l / (Q.natAbs : Int)), .int .i64 0]) ∧ Below W.heap.size W w') := Lib.hid (fun W => by
            have h := int_any (-costL l / (Q.natAbs : Int)) (by unfold In128; omega) W
            have e1 : fV (-costL l / (Q.natAbs : Int)) = -costL l / (Q.natAbs : Int) := if_pos (by unfold In64; omega)
            have e2 : fE (-costL l / (Q.natAbs : Int)) = 0 := if_pos (by unfold In64; omega)
            rw [e1, e2] at h
            exact h)
          clear m3 m4 m5 m6 hd hC hin hcin hqb m2 hQ
          generalize costL l = C at *
          generalize Q.natAbs = D at *
          generalize -C / (D : Int) = R at *
          generalize -C % (D : Int) = M at *
          generalize -C = NC at *
          have G0 := T2.new w3 (hiN C) (loN C) 62
          have hB3' := since_alloc hB3 (.cells #[.int .i64 (hiN C), .int .u64 (loN C)] 62)
          have hsz3 : w.heap.size ≤ w3.heap.size := hB3.size
          go_wp2_with fail
          refine (HNG.out _).mono ?_
          rintro e w4 ⟨rfl, hb4⟩
          have G1 := G0.below hb4
          have hB4 := since_step hB3' hb4
          have G2 := G1.set2 (hiN NC) (loN NC)
          obtain ⟨g0, g1, g2, g3, g4⟩ := id G1
          clear hb4
          go_wp2_with fail
          refine (HDV.out _).mono ?_
          rintro e w5 ⟨rfl, hb5⟩
          have hB5 := since_step (Below.setCell (Below.setCell hB4 (p := ⟨w3.heap.size, 0, none⟩) hsz3 (.int .i64 (hiN NC))) (p := ⟨w3.heap.size, 1, none⟩) hsz3 (.int .u64 (loN NC))) hb5
          have hB5' := since_alloc hB5 (.cells #[.int .i64 (hiN R), .int .u64 (loN R)] 62)
          clear hb5
          go_wp2_with fail
          refine (HIN.out _).mono ?_
          rintro e w6 ⟨rfl, hb6⟩
          have hB6 := since_step hB5' hb6
          go_wp2_with fail
          (try simp only [Exit.inBlock, Exit.then]); refine bodyPost_ret (results_tmp4 rfl _ _ _) rfl ?_
          rw [HE.out]; exact ⟨rfl, hB6⟩
        · have hC : avgC l = costL l := by unfold avgC; rw [hQ, if_neg (by omega)]
          have hd : ((Q.natAbs : Nat) : Int) = Q := by omega
          have hnl : ¬ Q < 0 := by omega
          rw [hC] at HE m3 m4 m5 m6
          have HDV := Lib.hid (fun W => wdiv_pos (costL l) Q.natAbs hcin m2 (by omega) W)
          have HIN : Hid (∀ W, Calls Try.prog 126 #[.agg #[.int .i64 (hiN (costL l / (Q.natAbs : Int))), .int .u64 (loN (costL l / (Q.natAbs : Int)))]] W fun e w' => e = .returned (.tuple #[.int .i64 (costL l / (Q.natAbs : Int)), .int .i64 0]) ∧ Below W.heap.size W w') := Lib.hid (fun W => by
            have h := int_any (costL l / (Q.natAbs : Int)) (by unfold In128; omega) W
            have e1 : fV (costL l / (Q.natAbs : Int)) = costL l / (Q.natAbs : Int) := if_pos (by unfold In64; omega)
            have e2 : fE (costL l / (Q.natAbs : Int)) = 0 := if_pos (by unfold In64; omega)
            rw [e1, e2] at h
            exact h)
          have HD : Hid (∀ W, Calls Try.prog 125 #[.agg #[.int .i64 (hiN (costL l)), .int .u64 (loN (costL l))], .int .i64 Q] W fun e w' => e = .returned (.tuple #[.agg #[.int .i64 (hiN (costL l / (Q.natAbs : Int))), .int .u64 (loN (costL l / (Q.natAbs : Int)))], .int .i64 (costL l % (Q.natAbs : Int)), .int .i64 0]) ∧ Below W.heap.size W w') := Lib.hid (fun W => by
            have h := HDV.out W
            rw [show (Value.int .i64 ((Q.natAbs : Nat) : Int)) = .int .i64 Q from by rw [hd]] at h
            exact h)
          clear m3 m4 m5 m6 hd hC hcin hqb m2 hQ HDV
          generalize costL l = C at *
          generalize (Q.natAbs : Int) = D at *
          generalize C / D = R at *
          generalize C % D = M at *
          have hB3' := since_alloc hB3 (.cells #[.int .i64 (hiN C), .int .u64 (loN C)] 62)
          go_wp2_with fail
          refine (HD.out _).mono ?_
          rintro e w5 ⟨rfl, hb5⟩
          have hB5 := since_step hB3' hb5
          have hB5' := since_alloc hB5 (.cells #[.int .i64 (hiN R), .int .u64 (loN R)] 62)
          clear hb5
          go_wp2_with fail
          refine (HIN.out _).mono ?_
          rintro e w6 ⟨rfl, hb6⟩
          have hB6 := since_step hB5' hb6
          go_wp2_with fail
          (try simp only [Exit.inBlock, Exit.then]); refine bodyPost_ret (results_tmp4 rfl _ _ _) rfl ?_
          rw [HE.out]; exact ⟨rfl, hB6⟩
end Go.Proofs.Ytpnaihnmmnjacaa
