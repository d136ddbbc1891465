/-
  Layer 22, sixth part: BlockWhole (laid by gen_block6.py).
-/
import Derived.Test.YtpnaihnmmnjacaaBlock5
namespace Go.Proofs.Ytpnaihnmmnjacaa
open Go.ChangeShapes Go.WideShapes Go.ChangeAt Go.RowKit
set_option linter.unusedVariables false
set_option linter.unusedSimpArgs false

/-- the average lies between the prices; with the rest it makes the costs -/
theorem avg_between {l : List Fi} {q a r lo hi : Int} (hok : okFs l = true) (hq : q = qtyL l) (hC : avgC l = a * (q.natAbs : Int) + r) (r0 : 0 ≤ r) (r1 : r < (q.natAbs : Int)) (hp : ∀ f ∈ l, lo ≤ f.pr ∧ f.pr ≤ hi) :
    lo ≤ a ∧ a ≤ hi ∧ q * a + (if q < 0 then -r else r) = costL l := by
  subst hq
  obtain ⟨q, hq⟩ : ∃ q, qtyL l = q := ⟨_, rfl⟩
  have key : lo * (q.natAbs : Int) ≤ avgC l ∧ avgC l ≤ hi * (q.natAbs : Int) ∧ (if q < 0 then -avgC l else avgC l) = costL l ∧ q ≠ 0 := by
    have hm := (avg_main hok).1
    rcases okFs_side hok with hs | hs
    · obtain ⟨h1, h2, h3⟩ := cost_pos lo hi l (fun f hf => ⟨hs f hf, hp f hf⟩)
      have hn : ¬ qtyL l < 0 := by omega
      have e : ((qtyL l).natAbs : Int) = qtyL l := by omega
      unfold avgC
      rw [← hq, e, if_neg hn, if_neg hn]
      exact ⟨h2, h3, rfl, hm⟩
    · obtain ⟨h1, h2, h3⟩ := cost_neg lo hi l (fun f hf => ⟨hs f hf, hp f hf⟩)
      have hn : qtyL l < 0 := by omega
      have e : ((qtyL l).natAbs : Int) = -qtyL l := by omega
      unfold avgC
      rw [← hq, e, if_pos hn, if_pos hn, Int.mul_neg, Int.mul_neg]
      exact ⟨by omega, by omega, by omega, hm⟩
  rw [hq] at hC r1 ⊢
  obtain ⟨k1, k2, k3, k4⟩ := key
  have hD : 0 < (q.natAbs : Int) := by omega
  refine ⟨?_, ?_, ?_⟩
  · have : lo * (q.natAbs : Int) < (a + 1) * (q.natAbs : Int) := by rw [Int.add_mul]; omega
    have := Int.lt_of_mul_lt_mul_right this (by omega)
    omega
  · have : a * (q.natAbs : Int) < (hi + 1) * (q.natAbs : Int) := by rw [Int.add_mul]; omega
    have := Int.lt_of_mul_lt_mul_right this (by omega)
    omega
  · rw [← k3, hC, Int.mul_comm q a]
    by_cases hn : q < 0
    · have e : (q.natAbs : Int) = -q := by omega
      rw [if_pos hn, if_pos hn, e, Int.mul_neg]
      omega
    · have e : (q.natAbs : Int) = q := by omega
      rw [if_neg hn, if_neg hn, e]

def RelW (B : World) (l : List Fi) (lo hi i : Value) (wr : World) : Prop :=
  ∃ (k : Nat) (lw hg : Int) (s : Bool) (A : Option Addr) (n c : Nat), k ≤ l.length ∧ i = .int .i64 k ∧ lo = .int .i64 lw ∧ hi = .int .i64 hg ∧ (∀ j, (hj : j < l.length) → j < k → lw ≤ l[j].pr ∧ l[j].pr ≤ hg) ∧
    BX (B.heap.size + 1) wr B.heap.size s A n c (costL (l.take k)) ∧ Below B.heap.size B wr

set_option maxHeartbeats 16000000 in
set_option maxRecDepth 100000 in
theorem walk_BlockWhole (a0 : Option Addr) (n0 c0 : Nat) (w : World) (w0 : Rd w (.sl (.cat (.int .i64) (.cat (.int .i64) .nil))) [.slice a0 n0 c0]) :
    Calls Try.prog 12 #[.slice a0 n0 c0] w fun e w' => e = .returned (.bool true) ∧ Below w.heap.size w w' := by
  obtain ⟨l0, rfl, hn, hcm, hsl⟩ := rd_rows (f := Fi.cells) (fun r => rd_frow) w0
  have hs := by
    have h := hsl.take (20 * 2)
    rw [rc_take Fi.len] at h
    exact h
  have HFW := Lib.hid (fun W h => few22_any a0 c0 l0 W hn hcm h)
  have HSL := Lib.hid hsl
  have hl : (l0.take 20).length ≤ 20 := by simp; omega
  clear w0 hsl
  generalize l0.take 20 = l at *
  have HA := Lib.hid (fun W h => bavg_any a0 c0 l W (by omega) h)
  unfold avgV at HA
  rcases avgR_cases l with ⟨e, he, hE⟩ | ⟨q, a, r, hE, hok, hql, q0, q1, q2, r0, r1, a0', a1', hC⟩
  · rw [hE] at HA
    have hne : (e == 0) = false := by simpa using he
    clear hE
    go_enter Try.func12, Try.ntmps12
    go_wp2_with fail
    refine (HFW.out _ HSL.out).mono ?_
    rintro e' w1 ⟨rfl, hb1⟩
    have hs := hs.below hb1
    go_wp2_with fail
    refine (HA.out _ hs).mono ?_
    rintro e' w2 ⟨rfl, hb2⟩
    have hB2 := since_step hb1 hb2
    go_wp2_with fail
    refine (lives22_any _).mono ?_
    rintro e' w3 ⟨rfl, hb3⟩
    have hB3 := since_step hB2 hb3
    go_wp2_with fail
    go_ret
    exact ⟨rfl, hB3⟩
  rw [hE] at HA
  obtain ⟨n1, n16, hall⟩ := okFs_all hok
  have hallF : ∀ f ∈ l, okF f = true := fun f hf => (okE_sg (hall f hf)).1
  have HBT := Lib.hid (fun lo hi h => avg_between (lo := lo) (hi := hi) hok hql hC r0 r1 h)
  have HCI : Hid (∀ k, In128 (costL (l.take k))) := Lib.hid (fun k => costL_in (fun f hf => hallF f (List.mem_of_mem_take hf)) (by simp; omega))
  have HFI : Hid (∀ k, (h : k < l.length) → In64 l[k].qty ∧ In64 l[k].pr) := Lib.hid (fun k h => by
    have := okF_bd (hallF _ (List.getElem_mem h))
    unfold In64
    omega)
  have hll : l.length ≤ 1000000 := by omega
  clear hE hC hall hallF hok hql
  go_enter Try.func12, Try.ntmps12
  go_wp2_with fail
  refine (HFW.out _ HSL.out).mono ?_
  rintro e' w1 ⟨rfl, hb1⟩
  have hs := hs.below hb1
  clear HFW HSL
  go_wp2_with fail
  refine (HA.out _ hs).mono ?_
  rintro e' B ⟨rfl, hb2⟩
  have hB := since_step hb1 hb2
  have hs := hs.below hb2
  clear HA hb1 hb2
  go_upto_region 6 with fail
  have X0 := BX.new (w := B) (B := B.heap.size + 1) (by omega) 69
  have hB0 := since_alloc (Below.refl _ B) (.cells #[.bool false, .slice none 0 0] 69)
  obtain ⟨b, o, rfl, hbw, hg⟩ := hs.fi (k := 0) (by omega)
  obtain ⟨p0, hp0⟩ : ∃ p, (l[0]'(by omega)).pr = p := ⟨_, rfl⟩
  have hgz := (Fi.at_keep (w := B) (w' := B.alloc (.cells #[.bool false, .slice none 0 0] 69)) hg fun i => hB0.cell (p := ⟨b, i, none⟩) hbw).2
  rw [hp0] at hgz
  simp only [Nat.zero_mul, Nat.add_zero] at hgz
  have hl0 : (0 : Int) < (l.length : Int) := by omega
  have HP0 := Lib.hid hp0
  clear hg hp0
  generalize hWW : B.alloc (.cells #[.bool false, .slice none 0 0] 69) = W0 at *
  clear hWW
  go_wp2_with fail
  go_quiet (fail)
  go_wp2_with fail
  go_loopw [8, 9, 10] (fun lo hi i wr => RelW B l lo hi i wr) (fun _ _ i _ => l.length - (intOf i).toNat)
  case atStart =>
    refine ⟨0, p0, p0, false, none, 0, 0, by omega, rfl, rfl, rfl, fun j hj h => absurd h (by omega), ?_, below_drewN hB0 _⟩
    exact X0.below (below_drewN (Below.refl _ _) _)
  case round =>
    obtain ⟨k, lw, hg, s7, A7, n7, c7, hk, rfl, rfl, rfl, hno, X7, hBr⟩ := hrel
    have hge : (0 : Int) ≤ (k : Int) := by omega
    have hsz := hBr.size
    have hBw := hB.trans (hBr.mono hB.size)
    by_cases hlt : k < l.length
    · obtain ⟨b', o', e, _, hg1⟩ := hs.fi hlt
      injection e with e
      injection e with e1 e2 e3
      subst e1; subst e2
      have hlk : (k : Int) < (l.length : Int) := by omega
      have hL7 := X7.at_.l128 (HCI.out k)
      obtain ⟨hq64, hp64⟩ := HFI.out k hlt
      have HSC := Lib.hid (costL_take l k hlt)
      have HGO : Hid (∀ lo hi, lo ≤ lw → hg ≤ hi → lo ≤ l[k].pr → l[k].pr ≤ hi → ∀ j, (hj : j < l.length) → j < k + 1 → lo ≤ l[j].pr ∧ l[j].pr ≤ hi) := Lib.hid (fun lo hi h1 h2 h3 h4 j hj hjk => by
        rcases Nat.lt_or_ge j k with h' | h'
        · have := hno j hj h'; omega
        · obtain rfl : j = k := by omega
          exact ⟨h3, h4⟩)
      have HX : Hid (∀ V, Below B.heap.size B V → l[k].at V b (o + k * 2)) := Lib.hid fun V hV => Fi.at_keep (w := B) hg1 fun i => hV.cell (p := ⟨b, i, none⟩) hbw
      clear hg1 hno hs HBT HCI HFI HP0 X0 hgz
      generalize l[k] = v at *
      obtain ⟨x, p⟩ := v
      simp only at hq64 hp64 HSC HGO
      unfold Fi.at at HX
      simp only at HX
      have HQ := Lib.hid (fun W => bof_any x W hq64)
      have HP := Lib.hid (fun W => bof_any p W hp64)
      generalize costL (l.take k) = z at *
      have X7 := X7.drew
      go_wp2_with fail
      refine wp_region_held_drew (S := (fun V => Below B.heap.size B V)) (by kernel_rfl) (by exact hBr.drew) (fun hHeld => ?_)
      refine wpAnyH_take (i := 1) (oi := { dst := some 53, op := _, type := _, pos := _, after := _, guard := _ }) (v := ?_) rfl (by kernel_rfl) (by kernel_rfl) (by kernel_rfl) (fun _ _ _ h => h) (Or.inl ⟨by rfl, ?_⟩) hHeld ?_
      rotate_left
      · (intro w hSw; obtain ⟨x0, x1⟩ := HX.out _ hSw; go_simp <;> with_reducible rfl)
      try simp only [Act.put, List.setIfInBounds_toArray, List.set_cons_zero, List.set_cons_succ]
      refine wpAnyH_take (i := 2) (oi := { dst := some 54, op := _, type := _, pos := _, after := _, guard := _ }) (v := ?_) rfl (by kernel_rfl) (by kernel_rfl) (by kernel_rfl) (fun _ _ _ h => h) (Or.inl ⟨by rfl, ?_⟩) hHeld ?_
      rotate_left
      · (intro w hSw; obtain ⟨x0, x1⟩ := HX.out _ hSw; go_simp <;> with_reducible rfl)
      try simp only [Act.put, List.setIfInBounds_toArray, List.set_cons_zero, List.set_cons_succ]
      refine wpAnyH_take (i := 3) (oi := { dst := some 55, op := _, type := _, pos := _, after := _, guard := _ }) (v := ?_) rfl (by kernel_rfl) (by kernel_rfl) (by kernel_rfl) (fun _ _ _ h => h) (Or.inl ⟨by rfl, ?_⟩) hHeld ?_
      rotate_left
      · (intro w hSw; obtain ⟨x0, x1⟩ := HX.out _ hSw; go_simp <;> with_reducible rfl)
      try simp only [Act.put, List.setIfInBounds_toArray, List.set_cons_zero, List.set_cons_succ]
      refine wpAnyH_take (i := 4) (oi := { dst := some 56, op := _, type := _, pos := _, after := _, guard := _ }) (v := ?_) rfl (by kernel_rfl) (by kernel_rfl) (by kernel_rfl) (fun _ _ _ h => h) (Or.inl ⟨by rfl, ?_⟩) hHeld ?_
      rotate_left
      · (intro w hSw; obtain ⟨x0, x1⟩ := HX.out _ hSw; go_simp <;> with_reducible rfl)
      try simp only [Act.put, List.setIfInBounds_toArray, List.set_cons_zero, List.set_cons_succ]
      refine wpAnyH_take (i := 5) (oi := { dst := some 57, op := _, type := _, pos := _, after := _, guard := _ }) (v := ?_) rfl (by kernel_rfl) (by kernel_rfl) (by kernel_rfl) (fun _ _ _ h => h) (Or.inl ⟨by rfl, ?_⟩) hHeld ?_
      rotate_left
      · (intro w hSw; obtain ⟨x0, x1⟩ := HX.out _ hSw; go_simp <;> with_reducible rfl)
      try simp only [Act.put, List.setIfInBounds_toArray, List.set_cons_zero, List.set_cons_succ]
      refine wpAnyH_take (i := 7) (oi := { dst := some 59, op := _, type := _, pos := _, after := _, guard := _ }) (v := ?_) rfl (by kernel_rfl) (by kernel_rfl) (by kernel_rfl) (fun _ _ _ h => h) (Or.inl ⟨by rfl, ?_⟩) hHeld ?_
      rotate_left
      · (intro w hSw; obtain ⟨x0, x1⟩ := HX.out _ hSw; go_simp <;> with_reducible rfl)
      try simp only [Act.put, List.setIfInBounds_toArray, List.set_cons_zero, List.set_cons_succ]
      refine wpAnyH_take (i := 8) (oi := { dst := some 60, op := _, type := _, pos := _, after := _, guard := _ }) (v := ?_) rfl (by kernel_rfl) (by kernel_rfl) (by kernel_rfl) (fun _ _ _ h => h) (Or.inl ⟨by rfl, ?_⟩) hHeld ?_
      rotate_left
      · (intro w hSw; obtain ⟨x0, x1⟩ := HX.out _ hSw; go_simp <;> with_reducible rfl)
      try simp only [Act.put, List.setIfInBounds_toArray, List.set_cons_zero, List.set_cons_succ]
      refine wpAnyH_take (i := 9) (oi := { dst := some 61, op := _, type := _, pos := _, after := _, guard := _ }) (v := ?_) rfl (by kernel_rfl) (by kernel_rfl) (by kernel_rfl) (fun _ _ _ h => h) (Or.inl ⟨by rfl, ?_⟩) hHeld ?_
      rotate_left
      · (intro w hSw; obtain ⟨x0, x1⟩ := HX.out _ hSw; go_simp <;> with_reducible rfl)
      try simp only [Act.put, List.setIfInBounds_toArray, List.set_cons_zero, List.set_cons_succ]
      refine wpAnyH_take (i := 10) (oi := { dst := some 62, op := _, type := _, pos := _, after := _, guard := _ }) (v := ?_) rfl (by kernel_rfl) (by kernel_rfl) (by kernel_rfl) (fun _ _ _ h => h) (Or.inl ⟨by rfl, ?_⟩) hHeld ?_
      rotate_left
      · (intro w hSw; obtain ⟨x0, x1⟩ := HX.out _ hSw; go_simp <;> with_reducible rfl)
      try simp only [Act.put, List.setIfInBounds_toArray, List.set_cons_zero, List.set_cons_succ]
      refine wpAnyH_take (i := 11) (oi := { dst := some 63, op := _, type := _, pos := _, after := _, guard := _ }) (v := ?_) rfl (by kernel_rfl) (by kernel_rfl) (by kernel_rfl) (fun _ _ _ h => h) (Or.inl ⟨by rfl, ?_⟩) hHeld ?_
      rotate_left
      · (intro w hSw; obtain ⟨x0, x1⟩ := HX.out _ hSw; go_simp <;> with_reducible rfl)
      try simp only [Act.put, List.setIfInBounds_toArray, List.set_cons_zero, List.set_cons_succ]
      refine wpAnyH_ready (rs := [0, 6]) (by kernel_rfl) (by simp) ?_
      refine AllReadyH.cons (o := { dst := some 52, op := _, type := _, pos := _, after := _, guard := _ }) rfl (fun K hK => ?_) (AllReadyH.cons (o := { dst := some 58, op := _, type := _, pos := _, after := _, guard := _ }) rfl (fun K hK => ?_) AllReadyH.nil)
      · have hHd := hHeld
        obtain ⟨x0, x1⟩ := HX.out _ hHd
        obtain ⟨b1, b2, b3, b4, b5⟩ := id X7.bb
        have hKeep := hHeld
        go_simp
        refine hK.out _ _ (by (try dsimp only); exact hKeep) (fun hHeld => ?_)
        clear hK K hKeep
        try simp only [Act.put, List.setIfInBounds_toArray, List.set_cons_zero, List.set_cons_succ]
        refine wpAnyH_ready (rs := [6]) (by kernel_rfl) (by simp) ?_
        refine AllReadyH.cons (o := { dst := some 58, op := _, type := _, pos := _, after := _, guard := _ }) rfl (fun K hK => ?_) AllReadyH.nil
        go_simp
        refine (HQ.out _).mono ?_
        rintro e u1 ⟨⟨s1, A1, m1, k1, rfl, hf1, Y1⟩, hk1⟩
        have hKeep := since_step hHeld hk1
        have L1 := Y1.l64 hq64
        have X7 := X7.below hk1
        go_wp2_with fail
        refine hK.out _ _ (by (try dsimp only); exact hKeep) (fun hHeld => ?_)
        clear hK K hKeep
        try simp only [Act.put, List.setIfInBounds_toArray, List.set_cons_zero, List.set_cons_succ]
        refine wpAnyH_ready (rs := [12]) (by kernel_rfl) (by simp) ?_
        refine AllReadyH.cons (o := { dst := some 64, op := _, type := _, pos := _, after := _, guard := _ }) rfl (fun K hK => ?_) AllReadyH.nil
        go_simp
        refine (HP.out _).mono ?_
        rintro e u2 ⟨⟨s2, A2, m2, k2, rfl, hf2, Y2⟩, hk2⟩
        have hKeep := since_step hHeld hk2
        have L2 := Y2.l64 hp64
        have X7 := X7.below hk2
        have Y1 := Y1.below hk2
        go_wp2_with fail
        refine hK.out _ _ (by (try dsimp only); exact hKeep) (fun hHeld => ?_)
        clear hK K hKeep
        try simp only [Act.put, List.setIfInBounds_toArray, List.set_cons_zero, List.set_cons_succ]
        refine wpAnyH_ready (rs := [13]) (by kernel_rfl) (by simp) ?_
        refine AllReadyH.cons (o := { dst := some 65, op := _, type := _, pos := _, after := _, guard := _ }) rfl (fun K hK => ?_) AllReadyH.nil
        go_simp
        refine (bmul_any _ _ _ _ _ _ _ _ _ _ _ (by omega) (by omega) Y1 Y2).mono ?_
        rintro e u3 ⟨⟨s3, A3, m3, k3, rfl, hf3, Y3⟩, hk3⟩
        have hKeep := since_step hHeld hk3
        have L3 := len_mul Y1 Y2 Y3
        have X7 := X7.below hk3
        go_wp2_with fail
        refine hK.out _ _ (by (try dsimp only); exact hKeep) (fun hHeld => ?_)
        clear hK K hKeep
        try simp only [Act.put, List.setIfInBounds_toArray, List.set_cons_zero, List.set_cons_succ]
        refine wpAnyH_ready (rs := [14]) (by kernel_rfl) (by simp) ?_
        refine AllReadyH.cons (o := { dst := some 66, op := _, type := _, pos := _, after := _, guard := _ }) rfl (fun K hK => ?_) AllReadyH.nil
        go_simp
        refine (badd' (by omega) (by omega) X7.at_ Y3).mono ?_
        rintro e u4 ⟨⟨s4, A4, m4, k4, rfl, hf4, Y4⟩, hk4⟩
        have hz1 := X7.bb.1
        have hKeep := since_step hHeld hk4
        have X7 := X7.below hk4
        go_wp2_with fail
        refine hK.out _ _ (by (try dsimp only); exact hKeep) (fun hHeld => ?_)
        clear hK K hKeep
        try simp only [Act.put, List.setIfInBounds_toArray, List.set_cons_zero, List.set_cons_succ]
        refine wpAnyH_ready (rs := [15]) (by kernel_rfl) (by simp) ?_
        refine AllReadyH.cons (o := { dst := none, op := _, type := _, pos := _, after := _, guard := _ }) rfl (fun K hK => ?_) AllReadyH.nil
        have hHd := hHeld
        obtain ⟨x0, x1⟩ := HX.out _ hHd
        have X7n := X7.put Y4 (hf4.le (by omega) (Nat.le_refl _))
        obtain ⟨b1, b2, b3, b4, b5⟩ := id X7.bb
        have hKeep : Below B.heap.size B ((u4.setCell ⟨B.heap.size, 0, none⟩ (.bool s4)).setCell ⟨B.heap.size, 1, none⟩ (.slice A4 m4 k4)) := Below.setCell (Below.setCell hHeld (Nat.le_refl _) _) (Nat.le_refl _) _
        skip
        go_simp
        refine hK.out _ _ (by (try dsimp only); exact hKeep) (fun hHeld => ?_)
        clear hK K hKeep
        try simp only [Act.put, List.setIfInBounds_toArray, List.set_cons_zero, List.set_cons_succ]
        refine wpAnyH_done (by kernel_rfl) ?_ _
        generalize hFW : ((u4.setCell ⟨B.heap.size, 0, none⟩ (.bool s4)).setCell ⟨B.heap.size, 1, none⟩ (.slice A4 m4 k4)) = FW at *
        have hBf := hHeld
        obtain ⟨x0, x1⟩ := HX.out _ hBf
        clear b1 b2 b3 b4 b5 hFW
        by_cases c1 : p < lw
        · by_cases c2 : hg < p
          · go_wp2_with fail
            go_roundw
            case rel =>
              refine ⟨k + 1, p, p, s4, A4, m4, k4, by omega, by go_num, rfl, rfl, HGO.out _ _ (by omega) (by omega) (by omega) (by omega), ?_, hBf⟩
              rw [HSC.out]; exact X7n
            case measure => simp [intOf]; omega
          · go_wp2_with fail
            go_roundw
            case rel =>
              refine ⟨k + 1, p, hg, s4, A4, m4, k4, by omega, by go_num, rfl, rfl, HGO.out _ _ (by omega) (by omega) (by omega) (by omega), ?_, hBf⟩
              rw [HSC.out]; exact X7n
            case measure => simp [intOf]; omega
        · by_cases c2 : hg < p
          · go_wp2_with fail
            go_roundw
            case rel =>
              refine ⟨k + 1, lw, p, s4, A4, m4, k4, by omega, by go_num, rfl, rfl, HGO.out _ _ (by omega) (by omega) (by omega) (by omega), ?_, hBf⟩
              rw [HSC.out]; exact X7n
            case measure => simp [intOf]; omega
          · go_wp2_with fail
            go_roundw
            case rel =>
              refine ⟨k + 1, lw, hg, s4, A4, m4, k4, by omega, by go_num, rfl, rfl, HGO.out _ _ (by omega) (by omega) (by omega) (by omega), ?_, hBf⟩
              rw [HSC.out]; exact X7n
            case measure => simp [intOf]; omega
      · go_simp
        refine (HQ.out _).mono ?_
        rintro e u1 ⟨⟨s1, A1, m1, k1, rfl, hf1, Y1⟩, hk1⟩
        have hKeep := since_step hHeld hk1
        have L1 := Y1.l64 hq64
        have X7 := X7.below hk1
        go_wp2_with fail
        refine hK.out _ _ (by (try dsimp only); exact hKeep) (fun hHeld => ?_)
        clear hK K hKeep
        try simp only [Act.put, List.setIfInBounds_toArray, List.set_cons_zero, List.set_cons_succ]
        refine wpAnyH_ready (rs := [0, 12]) (by kernel_rfl) (by simp) ?_
        refine AllReadyH.cons (o := { dst := some 52, op := _, type := _, pos := _, after := _, guard := _ }) rfl (fun K hK => ?_) (AllReadyH.cons (o := { dst := some 64, op := _, type := _, pos := _, after := _, guard := _ }) rfl (fun K hK => ?_) AllReadyH.nil)
        · have hHd := hHeld
          obtain ⟨x0, x1⟩ := HX.out _ hHd
          obtain ⟨b1, b2, b3, b4, b5⟩ := id X7.bb
          have hKeep := hHeld
          go_simp
          refine hK.out _ _ (by (try dsimp only); exact hKeep) (fun hHeld => ?_)
          clear hK K hKeep
          try simp only [Act.put, List.setIfInBounds_toArray, List.set_cons_zero, List.set_cons_succ]
          refine wpAnyH_ready (rs := [12]) (by kernel_rfl) (by simp) ?_
          refine AllReadyH.cons (o := { dst := some 64, op := _, type := _, pos := _, after := _, guard := _ }) rfl (fun K hK => ?_) AllReadyH.nil
          go_simp
          refine (HP.out _).mono ?_
          rintro e u2 ⟨⟨s2, A2, m2, k2, rfl, hf2, Y2⟩, hk2⟩
          have hKeep := since_step hHeld hk2
          have L2 := Y2.l64 hp64
          have X7 := X7.below hk2
          have Y1 := Y1.below hk2
          go_wp2_with fail
          refine hK.out _ _ (by (try dsimp only); exact hKeep) (fun hHeld => ?_)
          clear hK K hKeep
          try simp only [Act.put, List.setIfInBounds_toArray, List.set_cons_zero, List.set_cons_succ]
          refine wpAnyH_ready (rs := [13]) (by kernel_rfl) (by simp) ?_
          refine AllReadyH.cons (o := { dst := some 65, op := _, type := _, pos := _, after := _, guard := _ }) rfl (fun K hK => ?_) AllReadyH.nil
          go_simp
          refine (bmul_any _ _ _ _ _ _ _ _ _ _ _ (by omega) (by omega) Y1 Y2).mono ?_
          rintro e u3 ⟨⟨s3, A3, m3, k3, rfl, hf3, Y3⟩, hk3⟩
          have hKeep := since_step hHeld hk3
          have L3 := len_mul Y1 Y2 Y3
          have X7 := X7.below hk3
          go_wp2_with fail
          refine hK.out _ _ (by (try dsimp only); exact hKeep) (fun hHeld => ?_)
          clear hK K hKeep
          try simp only [Act.put, List.setIfInBounds_toArray, List.set_cons_zero, List.set_cons_succ]
          refine wpAnyH_ready (rs := [14]) (by kernel_rfl) (by simp) ?_
          refine AllReadyH.cons (o := { dst := some 66, op := _, type := _, pos := _, after := _, guard := _ }) rfl (fun K hK => ?_) AllReadyH.nil
          go_simp
          refine (badd' (by omega) (by omega) X7.at_ Y3).mono ?_
          rintro e u4 ⟨⟨s4, A4, m4, k4, rfl, hf4, Y4⟩, hk4⟩
          have hz1 := X7.bb.1
          have hKeep := since_step hHeld hk4
          have X7 := X7.below hk4
          go_wp2_with fail
          refine hK.out _ _ (by (try dsimp only); exact hKeep) (fun hHeld => ?_)
          clear hK K hKeep
          try simp only [Act.put, List.setIfInBounds_toArray, List.set_cons_zero, List.set_cons_succ]
          refine wpAnyH_ready (rs := [15]) (by kernel_rfl) (by simp) ?_
          refine AllReadyH.cons (o := { dst := none, op := _, type := _, pos := _, after := _, guard := _ }) rfl (fun K hK => ?_) AllReadyH.nil
          have hHd := hHeld
          obtain ⟨x0, x1⟩ := HX.out _ hHd
          have X7n := X7.put Y4 (hf4.le (by omega) (Nat.le_refl _))
          obtain ⟨b1, b2, b3, b4, b5⟩ := id X7.bb
          have hKeep : Below B.heap.size B ((u4.setCell ⟨B.heap.size, 0, none⟩ (.bool s4)).setCell ⟨B.heap.size, 1, none⟩ (.slice A4 m4 k4)) := Below.setCell (Below.setCell hHeld (Nat.le_refl _) _) (Nat.le_refl _) _
          skip
          go_simp
          refine hK.out _ _ (by (try dsimp only); exact hKeep) (fun hHeld => ?_)
          clear hK K hKeep
          try simp only [Act.put, List.setIfInBounds_toArray, List.set_cons_zero, List.set_cons_succ]
          refine wpAnyH_done (by kernel_rfl) ?_ _
          generalize hFW : ((u4.setCell ⟨B.heap.size, 0, none⟩ (.bool s4)).setCell ⟨B.heap.size, 1, none⟩ (.slice A4 m4 k4)) = FW at *
          have hBf := hHeld
          obtain ⟨x0, x1⟩ := HX.out _ hBf
          clear b1 b2 b3 b4 b5 hFW
          by_cases c1 : p < lw
          · by_cases c2 : hg < p
            · go_wp2_with fail
              go_roundw
              case rel =>
                refine ⟨k + 1, p, p, s4, A4, m4, k4, by omega, by go_num, rfl, rfl, HGO.out _ _ (by omega) (by omega) (by omega) (by omega), ?_, hBf⟩
                rw [HSC.out]; exact X7n
              case measure => simp [intOf]; omega
            · go_wp2_with fail
              go_roundw
              case rel =>
                refine ⟨k + 1, p, hg, s4, A4, m4, k4, by omega, by go_num, rfl, rfl, HGO.out _ _ (by omega) (by omega) (by omega) (by omega), ?_, hBf⟩
                rw [HSC.out]; exact X7n
              case measure => simp [intOf]; omega
          · by_cases c2 : hg < p
            · go_wp2_with fail
              go_roundw
              case rel =>
                refine ⟨k + 1, lw, p, s4, A4, m4, k4, by omega, by go_num, rfl, rfl, HGO.out _ _ (by omega) (by omega) (by omega) (by omega), ?_, hBf⟩
                rw [HSC.out]; exact X7n
              case measure => simp [intOf]; omega
            · go_wp2_with fail
              go_roundw
              case rel =>
                refine ⟨k + 1, lw, hg, s4, A4, m4, k4, by omega, by go_num, rfl, rfl, HGO.out _ _ (by omega) (by omega) (by omega) (by omega), ?_, hBf⟩
                rw [HSC.out]; exact X7n
              case measure => simp [intOf]; omega
        · go_simp
          refine (HP.out _).mono ?_
          rintro e u2 ⟨⟨s2, A2, m2, k2, rfl, hf2, Y2⟩, hk2⟩
          have hKeep := since_step hHeld hk2
          have L2 := Y2.l64 hp64
          have X7 := X7.below hk2
          have Y1 := Y1.below hk2
          go_wp2_with fail
          refine hK.out _ _ (by (try dsimp only); exact hKeep) (fun hHeld => ?_)
          clear hK K hKeep
          try simp only [Act.put, List.setIfInBounds_toArray, List.set_cons_zero, List.set_cons_succ]
          refine wpAnyH_ready (rs := [0, 13]) (by kernel_rfl) (by simp) ?_
          refine AllReadyH.cons (o := { dst := some 52, op := _, type := _, pos := _, after := _, guard := _ }) rfl (fun K hK => ?_) (AllReadyH.cons (o := { dst := some 65, op := _, type := _, pos := _, after := _, guard := _ }) rfl (fun K hK => ?_) AllReadyH.nil)
          · have hHd := hHeld
            obtain ⟨x0, x1⟩ := HX.out _ hHd
            obtain ⟨b1, b2, b3, b4, b5⟩ := id X7.bb
            have hKeep := hHeld
            go_simp
            refine hK.out _ _ (by (try dsimp only); exact hKeep) (fun hHeld => ?_)
            clear hK K hKeep
            try simp only [Act.put, List.setIfInBounds_toArray, List.set_cons_zero, List.set_cons_succ]
            refine wpAnyH_ready (rs := [13]) (by kernel_rfl) (by simp) ?_
            refine AllReadyH.cons (o := { dst := some 65, op := _, type := _, pos := _, after := _, guard := _ }) rfl (fun K hK => ?_) AllReadyH.nil
            go_simp
            refine (bmul_any _ _ _ _ _ _ _ _ _ _ _ (by omega) (by omega) Y1 Y2).mono ?_
            rintro e u3 ⟨⟨s3, A3, m3, k3, rfl, hf3, Y3⟩, hk3⟩
            have hKeep := since_step hHeld hk3
            have L3 := len_mul Y1 Y2 Y3
            have X7 := X7.below hk3
            go_wp2_with fail
            refine hK.out _ _ (by (try dsimp only); exact hKeep) (fun hHeld => ?_)
            clear hK K hKeep
            try simp only [Act.put, List.setIfInBounds_toArray, List.set_cons_zero, List.set_cons_succ]
            refine wpAnyH_ready (rs := [14]) (by kernel_rfl) (by simp) ?_
            refine AllReadyH.cons (o := { dst := some 66, op := _, type := _, pos := _, after := _, guard := _ }) rfl (fun K hK => ?_) AllReadyH.nil
            go_simp
            refine (badd' (by omega) (by omega) X7.at_ Y3).mono ?_
            rintro e u4 ⟨⟨s4, A4, m4, k4, rfl, hf4, Y4⟩, hk4⟩
            have hz1 := X7.bb.1
            have hKeep := since_step hHeld hk4
            have X7 := X7.below hk4
            go_wp2_with fail
            refine hK.out _ _ (by (try dsimp only); exact hKeep) (fun hHeld => ?_)
            clear hK K hKeep
            try simp only [Act.put, List.setIfInBounds_toArray, List.set_cons_zero, List.set_cons_succ]
            refine wpAnyH_ready (rs := [15]) (by kernel_rfl) (by simp) ?_
            refine AllReadyH.cons (o := { dst := none, op := _, type := _, pos := _, after := _, guard := _ }) rfl (fun K hK => ?_) AllReadyH.nil
            have hHd := hHeld
            obtain ⟨x0, x1⟩ := HX.out _ hHd
            have X7n := X7.put Y4 (hf4.le (by omega) (Nat.le_refl _))
            obtain ⟨b1, b2, b3, b4, b5⟩ := id X7.bb
            have hKeep : Below B.heap.size B ((u4.setCell ⟨B.heap.size, 0, none⟩ (.bool s4)).setCell ⟨B.heap.size, 1, none⟩ (.slice A4 m4 k4)) := Below.setCell (Below.setCell hHeld (Nat.le_refl _) _) (Nat.le_refl _) _
            skip
            go_simp
            refine hK.out _ _ (by (try dsimp only); exact hKeep) (fun hHeld => ?_)
            clear hK K hKeep
            try simp only [Act.put, List.setIfInBounds_toArray, List.set_cons_zero, List.set_cons_succ]
            refine wpAnyH_done (by kernel_rfl) ?_ _
            generalize hFW : ((u4.setCell ⟨B.heap.size, 0, none⟩ (.bool s4)).setCell ⟨B.heap.size, 1, none⟩ (.slice A4 m4 k4)) = FW at *
            have hBf := hHeld
            obtain ⟨x0, x1⟩ := HX.out _ hBf
            clear b1 b2 b3 b4 b5 hFW
            by_cases c1 : p < lw
            · by_cases c2 : hg < p
              · go_wp2_with fail
                go_roundw
                case rel =>
                  refine ⟨k + 1, p, p, s4, A4, m4, k4, by omega, by go_num, rfl, rfl, HGO.out _ _ (by omega) (by omega) (by omega) (by omega), ?_, hBf⟩
                  rw [HSC.out]; exact X7n
                case measure => simp [intOf]; omega
              · go_wp2_with fail
                go_roundw
                case rel =>
                  refine ⟨k + 1, p, hg, s4, A4, m4, k4, by omega, by go_num, rfl, rfl, HGO.out _ _ (by omega) (by omega) (by omega) (by omega), ?_, hBf⟩
                  rw [HSC.out]; exact X7n
                case measure => simp [intOf]; omega
            · by_cases c2 : hg < p
              · go_wp2_with fail
                go_roundw
                case rel =>
                  refine ⟨k + 1, lw, p, s4, A4, m4, k4, by omega, by go_num, rfl, rfl, HGO.out _ _ (by omega) (by omega) (by omega) (by omega), ?_, hBf⟩
                  rw [HSC.out]; exact X7n
                case measure => simp [intOf]; omega
              · go_wp2_with fail
                go_roundw
                case rel =>
                  refine ⟨k + 1, lw, hg, s4, A4, m4, k4, by omega, by go_num, rfl, rfl, HGO.out _ _ (by omega) (by omega) (by omega) (by omega), ?_, hBf⟩
                  rw [HSC.out]; exact X7n
                case measure => simp [intOf]; omega
          · go_simp
            refine (bmul_any _ _ _ _ _ _ _ _ _ _ _ (by omega) (by omega) Y1 Y2).mono ?_
            rintro e u3 ⟨⟨s3, A3, m3, k3, rfl, hf3, Y3⟩, hk3⟩
            have hKeep := since_step hHeld hk3
            have L3 := len_mul Y1 Y2 Y3
            have X7 := X7.below hk3
            go_wp2_with fail
            refine hK.out _ _ (by (try dsimp only); exact hKeep) (fun hHeld => ?_)
            clear hK K hKeep
            try simp only [Act.put, List.setIfInBounds_toArray, List.set_cons_zero, List.set_cons_succ]
            refine wpAnyH_ready (rs := [0]) (by kernel_rfl) (by simp) ?_
            refine AllReadyH.cons (o := { dst := some 52, op := _, type := _, pos := _, after := _, guard := _ }) rfl (fun K hK => ?_) AllReadyH.nil
            have hHd := hHeld
            obtain ⟨x0, x1⟩ := HX.out _ hHd
            obtain ⟨b1, b2, b3, b4, b5⟩ := id X7.bb
            have hKeep := hHeld
            go_simp
            refine hK.out _ _ (by (try dsimp only); exact hKeep) (fun hHeld => ?_)
            clear hK K hKeep
            try simp only [Act.put, List.setIfInBounds_toArray, List.set_cons_zero, List.set_cons_succ]
            refine wpAnyH_ready (rs := [14]) (by kernel_rfl) (by simp) ?_
            refine AllReadyH.cons (o := { dst := some 66, op := _, type := _, pos := _, after := _, guard := _ }) rfl (fun K hK => ?_) AllReadyH.nil
            go_simp
            refine (badd' (by omega) (by omega) X7.at_ Y3).mono ?_
            rintro e u4 ⟨⟨s4, A4, m4, k4, rfl, hf4, Y4⟩, hk4⟩
            have hz1 := X7.bb.1
            have hKeep := since_step hHeld hk4
            have X7 := X7.below hk4
            go_wp2_with fail
            refine hK.out _ _ (by (try dsimp only); exact hKeep) (fun hHeld => ?_)
            clear hK K hKeep
            try simp only [Act.put, List.setIfInBounds_toArray, List.set_cons_zero, List.set_cons_succ]
            refine wpAnyH_ready (rs := [15]) (by kernel_rfl) (by simp) ?_
            refine AllReadyH.cons (o := { dst := none, op := _, type := _, pos := _, after := _, guard := _ }) rfl (fun K hK => ?_) AllReadyH.nil
            have hHd := hHeld
            obtain ⟨x0, x1⟩ := HX.out _ hHd
            have X7n := X7.put Y4 (hf4.le (by omega) (Nat.le_refl _))
            obtain ⟨b1, b2, b3, b4, b5⟩ := id X7.bb
            have hKeep : Below B.heap.size B ((u4.setCell ⟨B.heap.size, 0, none⟩ (.bool s4)).setCell ⟨B.heap.size, 1, none⟩ (.slice A4 m4 k4)) := Below.setCell (Below.setCell hHeld (Nat.le_refl _) _) (Nat.le_refl _) _
            skip
            go_simp
            refine hK.out _ _ (by (try dsimp only); exact hKeep) (fun hHeld => ?_)
            clear hK K hKeep
            try simp only [Act.put, List.setIfInBounds_toArray, List.set_cons_zero, List.set_cons_succ]
            refine wpAnyH_done (by kernel_rfl) ?_ _
            generalize hFW : ((u4.setCell ⟨B.heap.size, 0, none⟩ (.bool s4)).setCell ⟨B.heap.size, 1, none⟩ (.slice A4 m4 k4)) = FW at *
            have hBf := hHeld
            obtain ⟨x0, x1⟩ := HX.out _ hBf
            clear b1 b2 b3 b4 b5 hFW
            by_cases c1 : p < lw
            · by_cases c2 : hg < p
              · go_wp2_with fail
                go_roundw
                case rel =>
                  refine ⟨k + 1, p, p, s4, A4, m4, k4, by omega, by go_num, rfl, rfl, HGO.out _ _ (by omega) (by omega) (by omega) (by omega), ?_, hBf⟩
                  rw [HSC.out]; exact X7n
                case measure => simp [intOf]; omega
              · go_wp2_with fail
                go_roundw
                case rel =>
                  refine ⟨k + 1, p, hg, s4, A4, m4, k4, by omega, by go_num, rfl, rfl, HGO.out _ _ (by omega) (by omega) (by omega) (by omega), ?_, hBf⟩
                  rw [HSC.out]; exact X7n
                case measure => simp [intOf]; omega
            · by_cases c2 : hg < p
              · go_wp2_with fail
                go_roundw
                case rel =>
                  refine ⟨k + 1, lw, p, s4, A4, m4, k4, by omega, by go_num, rfl, rfl, HGO.out _ _ (by omega) (by omega) (by omega) (by omega), ?_, hBf⟩
                  rw [HSC.out]; exact X7n
                case measure => simp [intOf]; omega
              · go_wp2_with fail
                go_roundw
                case rel =>
                  refine ⟨k + 1, lw, hg, s4, A4, m4, k4, by omega, by go_num, rfl, rfl, HGO.out _ _ (by omega) (by omega) (by omega) (by omega), ?_, hBf⟩
                  rw [HSC.out]; exact X7n
                case measure => simp [intOf]; omega
    · obtain rfl : k = l.length := by omega
      rw [List.take_length] at X7
      have hci := HCI.out l.length
      rw [List.take_length] at hci
      obtain ⟨h1, h2, h3⟩ := HBT.out lw hg (fun f hf => by
        obtain ⟨j, hj, rfl⟩ := List.getElem_of_mem hf
        exact hno j hj hj)
      have G7 := X7.bb
      have hG7w := X7.bb.1
      have Y7 := X7.at_
      have hL7 := Y7.l128 hci
      have hl7 := Y7.lt
      clear hno hs HBT HCI HFI HP0 X0 hgz X7 hci hbw hBr hB hB0
      generalize costL l = z at *
      have hr64 : In64 r := by unfold In64; omega
      have hq64 : In64 q := by unfold In64; omega
      have ha64 : In64 a := by unfold In64; omega
      have hc2 : cmpZ r (q.natAbs : Int) = -1 := by unfold cmpZ; rw [if_neg (by omega), if_pos (by omega)]
      have HC2 := Lib.hid hc2
      have e1 : decide (0 ≤ r) = true := decide_eq_true r0
      have e2 : decide (lw ≤ a) = true := decide_eq_true h1
      have e3 : decide (a ≤ hg) = true := decide_eq_true h2
      have HR := Lib.hid (fun W => bof_any r W hr64)
      have HQ := Lib.hid (fun W => bof_any q W hq64)
      have HA := Lib.hid (fun W => bof_any a W ha64)
      clear r0 r1 hc2 h1 h2
      by_cases hneg : q < 0
      · rw [if_pos hneg] at h3
        clear q0 q1 q2 a0' a1'
        go_wp2_with fail
        refine (HR.out _).mono ?_
        rintro e w6 ⟨⟨s1, A1, m1, k1, rfl, hf1, Y1⟩, hk1⟩
        have L1 := Y1.l64 hr64
        have hl1 := Y1.lt
        have G7 := G7.below hk1
        have Y7 := Y7.below hk1
        have hl7' := Y7.lt
        have hB6 := since_step hBw hk1
        have hA := (Below.refl w6.heap.size w6).alloc (Nat.le_refl _) (.cells #[.bool s1, .slice A1 m1 k1] 69)
        have G1 := BB.new w6 s1 A1 m1 k1 69
        have Y1 := Y1.below hA
        have G7 := G7.below hA
        have Y7 := Y7.below hA
        have hB7 := since_step hB6 hA
        have hg7 := hBw.size
        have hg7' := hk1.size
        clear hA hk1
        have hG7z : B.heap.size < wr.heap.size := hG7w
        have hG0 := G7.1
        obtain ⟨g0, g1, g2, g3, g4⟩ := id G1
        go_wp2_with fail
        refine (bneg' (by omega) Y1).mono ?_
        rintro e w7 ⟨⟨s2, m2, k2, rfl, hm2, Y2⟩, hk2⟩
        clear g0 g1 g2 g3 g4
        have G1 := G1.below hk2
        have G7 := G7.below hk2
        have Y7 := Y7.below hk2
        have hB8 := since_step hB7 hk2
        have hcs := @cell_set
        have Y2 := (Y2.far (p := ⟨w6.heap.size, 0, none⟩) (fun b o hA hn => by have := hl1 b o hA (by omega); show b ≠ w6.heap.size; omega) (.bool s2)).far (p := ⟨w6.heap.size, 1, none⟩) (fun b o hA hn => by have := hl1 b o hA (by omega); show b ≠ w6.heap.size; omega) (.slice A1 m2 k2)
        have Y7 := (Y7.far (p := ⟨w6.heap.size, 0, none⟩) (fun b o hA hn => by have := hl7' b o hA hn; show b ≠ w6.heap.size; omega) (.bool s2)).far (p := ⟨w6.heap.size, 1, none⟩) (fun b o hA hn => by have := hl7' b o hA hn; show b ≠ w6.heap.size; omega) (.slice A1 m2 k2)
        have hgne : w6.heap.size ≠ B.heap.size := by have h8 := hg7'; have h9 := hG7z; omega
        have G7 := (G7.far (p := ⟨w6.heap.size, 0, none⟩) (by show w6.heap.size ≠ _; omega) (.bool s2)).far (p := ⟨w6.heap.size, 1, none⟩) (by show w6.heap.size ≠ _; omega) (.slice A1 m2 k2)
        have hw6 := hB6.size
        have hB9 := Below.setCell (Below.setCell hB8 (p := ⟨w6.heap.size, 0, none⟩) hw6 (.bool s2)) (p := ⟨w6.heap.size, 1, none⟩) hw6 (.slice A1 m2 k2)
        have G2 := G1.set2 s2 A1 m2 k2
        obtain ⟨g0, g1, g2, g3, g4⟩ := id G1
        go_upto_region 18 with fail
        clear g0 g1 g2 g3 g4 G1 hcs
        generalize hWW : (w7.setCell ⟨w6.heap.size, 0, none⟩ (.bool s2)).setCell ⟨w6.heap.size, 1, none⟩ (.slice A1 m2 k2) = W8 at *
        clear hWW
        go_wp2_with fail
        refine (HQ.out _).mono ?_
        rintro e w9 ⟨⟨s5, A5, m5, k5, rfl, hf5, Y5⟩, hk5⟩
        have L5 := Y5.l64 hq64
        have hl5 := Y5.lt
        have G7 := G7.below hk5
        have Y7 := Y7.below hk5
        have G2 := G2.below hk5
        have Y2 := Y2.below hk5
        have hB10 := since_step hB9 hk5
        have hA := (Below.refl w9.heap.size w9).alloc (Nat.le_refl _) (.cells #[.bool false, .slice A5 m5 k5] 69)
        have G5 := BB.new w9 false A5 m5 k5 69
        have Y5 := Y5.abs.below hA
        have G7 := G7.below hA
        have Y7 := Y7.below hA
        have G2 := G2.below hA
        have Y2 := Y2.below hA
        have hB11 := since_step hB10 hA
        go_upto_region 20 with fail
        generalize hWW : w9.alloc (.cells #[.bool false, .slice A5 m5 k5] 69) = W at *
        clear hWW hA hk5
        have HG7 : Hid (∀ V, Below W.heap.size W V → BB V B.heap.size s7 A7 n7 c7 ∧ BigAt V s7 A7 n7 c7 z) := Lib.hid fun V hV => ⟨G7.below hV, Y7.below hV⟩
        have HG2 : Hid (∀ V, Below W.heap.size W V → BB V w6.heap.size s2 A1 m2 k2 ∧ BigAt V s2 A1 m2 k2 (-r)) := Lib.hid fun V hV => ⟨G2.below hV, Y2.below hV⟩
        have HG5 : Hid (∀ V, Below W.heap.size W V → BB V w9.heap.size false A5 m5 k5 ∧ BigAt V false A5 m5 k5 (q.natAbs : Int)) := Lib.hid fun V hV => ⟨G5.below hV, Y5.below hV⟩
        have hc1 : cmpZ (q * a + (-r)) z = 0 := by rw [h3]; exact cmp_same z
        have HC1 := Lib.hid hc1
        have hszW := hB11.size
        clear G7 Y7 G2 Y2 G5 Y5 hc1 h3
        go_wp2_with fail
        refine wp_region_held_drew (S := (fun V => Below W.heap.size W V)) (by kernel_rfl) (by exact (Below.refl _ _).drew) (fun hHeld => ?_)
        refine wpAnyH_take (i := 0) (oi := { dst := some 100, op := _, type := _, pos := _, after := _, guard := _ }) (v := ?_) rfl (by kernel_rfl) (by kernel_rfl) (by kernel_rfl) (fun _ _ _ h => h) (Or.inl ⟨by rfl, ?_⟩) hHeld ?_
        rotate_left
        · (intro w hSw; obtain ⟨⟨b1, b2, b3, b4, b5⟩, _⟩ := HG7.out _ hSw; obtain ⟨⟨d1, d2, d3, d4, d5⟩, _⟩ := HG2.out _ hSw; obtain ⟨⟨f1, f2, f3, f4, f5⟩, _⟩ := HG5.out _ hSw; go_simp <;> with_reducible rfl)
        try simp only [Act.put, List.setIfInBounds_toArray, List.set_cons_zero, List.set_cons_succ]
        refine wpAnyH_take (i := 2) (oi := { dst := some 102, op := _, type := _, pos := _, after := _, guard := _ }) (v := ?_) rfl (by kernel_rfl) (by kernel_rfl) (by kernel_rfl) (fun _ _ _ h => h) (Or.inl ⟨by rfl, ?_⟩) hHeld ?_
        rotate_left
        · (intro w hSw; obtain ⟨⟨b1, b2, b3, b4, b5⟩, _⟩ := HG7.out _ hSw; obtain ⟨⟨d1, d2, d3, d4, d5⟩, _⟩ := HG2.out _ hSw; obtain ⟨⟨f1, f2, f3, f4, f5⟩, _⟩ := HG5.out _ hSw; go_simp <;> with_reducible rfl)
        try simp only [Act.put, List.setIfInBounds_toArray, List.set_cons_zero, List.set_cons_succ]
        refine wpAnyH_take (i := 5) (oi := { dst := some 105, op := _, type := _, pos := _, after := _, guard := _ }) (v := ?_) rfl (by kernel_rfl) (by kernel_rfl) (by kernel_rfl) (fun _ _ _ h => h) (Or.inl ⟨by rfl, ?_⟩) hHeld ?_
        rotate_left
        · (intro w hSw; obtain ⟨⟨b1, b2, b3, b4, b5⟩, _⟩ := HG7.out _ hSw; obtain ⟨⟨d1, d2, d3, d4, d5⟩, _⟩ := HG2.out _ hSw; obtain ⟨⟨f1, f2, f3, f4, f5⟩, _⟩ := HG5.out _ hSw; go_simp <;> with_reducible rfl)
        try simp only [Act.put, List.setIfInBounds_toArray, List.set_cons_zero, List.set_cons_succ]
        refine wpAnyH_take (i := 7) (oi := { dst := some 107, op := _, type := _, pos := _, after := _, guard := _ }) (v := ?_) rfl (by kernel_rfl) (by kernel_rfl) (by kernel_rfl) (fun _ _ _ h => h) (Or.inl ⟨by rfl, ?_⟩) hHeld ?_
        rotate_left
        · (intro w hSw; obtain ⟨⟨b1, b2, b3, b4, b5⟩, _⟩ := HG7.out _ hSw; obtain ⟨⟨d1, d2, d3, d4, d5⟩, _⟩ := HG2.out _ hSw; obtain ⟨⟨f1, f2, f3, f4, f5⟩, _⟩ := HG5.out _ hSw; go_simp <;> with_reducible rfl)
        try simp only [Act.put, List.setIfInBounds_toArray, List.set_cons_zero, List.set_cons_succ]
        refine wpAnyH_ready (rs := [1]) (by kernel_rfl) (by simp) ?_
        refine AllReadyH.cons (o := { dst := some 101, op := _, type := _, pos := _, after := _, guard := _ }) rfl (fun K hK => ?_) AllReadyH.nil
        go_simp
        refine (HQ.out _).mono ?_
        rintro e v1 ⟨⟨t1, E1, i1, j1, rfl, hf1', Z1⟩, hk1⟩
        have hKeep := since_step hHeld hk1
        have M1 := Z1.l64 hq64
        go_wp2_with fail
        refine hK.out _ _ (by (try dsimp only); exact hKeep) (fun hHeld => ?_)
        clear hK K hKeep
        try simp only [Act.put, List.setIfInBounds_toArray, List.set_cons_zero, List.set_cons_succ]
        refine wpAnyH_ready (rs := [3]) (by kernel_rfl) (by simp) ?_
        refine AllReadyH.cons (o := { dst := some 103, op := _, type := _, pos := _, after := _, guard := _ }) rfl (fun K hK => ?_) AllReadyH.nil
        go_simp
        refine (HA.out _).mono ?_
        rintro e v2 ⟨⟨t2, E2, i2, j2, rfl, hf2', Z2⟩, hk2⟩
        have hKeep := since_step hHeld hk2
        have M2 := Z2.l64 ha64
        have Z1 := Z1.below hk2
        go_wp2_with fail
        refine hK.out _ _ (by (try dsimp only); exact hKeep) (fun hHeld => ?_)
        clear hK K hKeep
        try simp only [Act.put, List.setIfInBounds_toArray, List.set_cons_zero, List.set_cons_succ]
        refine wpAnyH_ready (rs := [4]) (by kernel_rfl) (by simp) ?_
        refine AllReadyH.cons (o := { dst := some 104, op := _, type := _, pos := _, after := _, guard := _ }) rfl (fun K hK => ?_) AllReadyH.nil
        go_simp
        refine (bmul_any _ _ _ _ _ _ _ _ _ _ _ (by omega) (by omega) Z1 Z2).mono ?_
        rintro e v3 ⟨⟨t3, E3, i3, j3, rfl, hf3', Z3⟩, hk3⟩
        have hKeep := since_step hHeld hk3
        have M3 := len_mul Z1 Z2 Z3
        go_wp2_with fail
        refine hK.out _ _ (by (try dsimp only); exact hKeep) (fun hHeld => ?_)
        clear hK K hKeep
        try simp only [Act.put, List.setIfInBounds_toArray, List.set_cons_zero, List.set_cons_succ]
        refine wpAnyH_ready (rs := [6]) (by kernel_rfl) (by simp) ?_
        refine AllReadyH.cons (o := { dst := some 106, op := _, type := _, pos := _, after := _, guard := _ }) rfl (fun K hK => ?_) AllReadyH.nil
        go_simp
        refine (badd' (by omega) (by omega) Z3 (HG2.out _ hHeld).2).mono ?_
        rintro e v4 ⟨⟨t4, E4, i4, j4, rfl, hf4', Z4⟩, hk4⟩
        have hKeep := since_step hHeld hk4
        have M4 := len_add Z3 (HG2.out _ hHeld).2 Z4
        go_wp2_with fail
        refine hK.out _ _ (by (try dsimp only); exact hKeep) (fun hHeld => ?_)
        clear hK K hKeep
        try simp only [Act.put, List.setIfInBounds_toArray, List.set_cons_zero, List.set_cons_succ]
        refine wpAnyH_ready (rs := [8]) (by kernel_rfl) (by simp) ?_
        refine AllReadyH.cons (o := { dst := some 108, op := _, type := _, pos := _, after := _, guard := _ }) rfl (fun K hK => ?_) AllReadyH.nil
        go_simp
        refine (bcmp_any _ _ _ _ _ _ _ _ _ _ _ (by omega) (by omega) Z4 (HG7.out _ hHeld).2).mono ?_
        rintro e v5 ⟨rfl, hk5⟩
        have hKeep := since_step hHeld hk5
        rw [HC1.out]
        go_wp2_with fail
        refine hK.out _ _ (by (try dsimp only); exact hKeep) (fun hHeld => ?_)
        clear hK K hKeep
        try simp only [Act.put, List.setIfInBounds_toArray, List.set_cons_zero, List.set_cons_succ]
        refine wpAnyH_take (i := 9) (oi := { dst := some 109, op := _, type := _, pos := _, after := _, guard := _ }) (v := ?_) rfl (by kernel_rfl) (by kernel_rfl) (by kernel_rfl) (fun _ _ _ h => h) (Or.inl ⟨by rfl, ?_⟩) hHeld ?_
        rotate_left
        · (intro w hSw; obtain ⟨⟨b1, b2, b3, b4, b5⟩, _⟩ := HG7.out _ hSw; obtain ⟨⟨d1, d2, d3, d4, d5⟩, _⟩ := HG2.out _ hSw; obtain ⟨⟨f1, f2, f3, f4, f5⟩, _⟩ := HG5.out _ hSw; go_simp <;> with_reducible rfl)
        try simp only [Act.put, List.setIfInBounds_toArray, List.set_cons_zero, List.set_cons_succ]
        refine wpAnyH_take (i := 10) (oi := { dst := some 110, op := _, type := _, pos := _, after := _, guard := _ }) (v := ?_) rfl (by kernel_rfl) (by kernel_rfl) (by kernel_rfl) (fun _ _ _ h => h) (Or.inl ⟨by rfl, ?_⟩) hHeld ?_
        rotate_left
        · (intro w hSw; obtain ⟨⟨b1, b2, b3, b4, b5⟩, _⟩ := HG7.out _ hSw; obtain ⟨⟨d1, d2, d3, d4, d5⟩, _⟩ := HG2.out _ hSw; obtain ⟨⟨f1, f2, f3, f4, f5⟩, _⟩ := HG5.out _ hSw; go_simp <;> with_reducible rfl)
        try simp only [Act.put, List.setIfInBounds_toArray, List.set_cons_zero, List.set_cons_succ]
        refine wpAnyH_take (i := 11) (oi := { dst := some 111, op := _, type := _, pos := _, after := _, guard := _ }) (v := ?_) rfl (by kernel_rfl) (by kernel_rfl) (by kernel_rfl) (fun _ _ _ h => h) (Or.inl ⟨by rfl, ?_⟩) hHeld ?_
        rotate_left
        · (intro w hSw; obtain ⟨⟨b1, b2, b3, b4, b5⟩, _⟩ := HG7.out _ hSw; obtain ⟨⟨d1, d2, d3, d4, d5⟩, _⟩ := HG2.out _ hSw; obtain ⟨⟨f1, f2, f3, f4, f5⟩, _⟩ := HG5.out _ hSw; go_simp <;> with_reducible rfl)
        try simp only [Act.put, List.setIfInBounds_toArray, List.set_cons_zero, List.set_cons_succ]
        refine wpAnyH_take (i := 12) (oi := { dst := some 112, op := _, type := _, pos := _, after := _, guard := _ }) (v := ?_) rfl (by kernel_rfl) (by kernel_rfl) (by kernel_rfl) (fun _ _ _ h => h) (Or.inl ⟨by rfl, ?_⟩) hHeld ?_
        rotate_left
        · (intro w hSw; obtain ⟨⟨b1, b2, b3, b4, b5⟩, _⟩ := HG7.out _ hSw; obtain ⟨⟨d1, d2, d3, d4, d5⟩, _⟩ := HG2.out _ hSw; obtain ⟨⟨f1, f2, f3, f4, f5⟩, _⟩ := HG5.out _ hSw; go_simp <;> with_reducible rfl)
        try simp only [Act.put, List.setIfInBounds_toArray, List.set_cons_zero, List.set_cons_succ]
        refine wpAnyH_take (i := 13) (oi := { dst := some 113, op := _, type := _, pos := _, after := _, guard := _ }) (v := ?_) rfl (by kernel_rfl) (by kernel_rfl) (by kernel_rfl) (fun _ _ _ h => h) (Or.inl ⟨by rfl, ?_⟩) hHeld ?_
        rotate_left
        · (intro w hSw; obtain ⟨⟨b1, b2, b3, b4, b5⟩, _⟩ := HG7.out _ hSw; obtain ⟨⟨d1, d2, d3, d4, d5⟩, _⟩ := HG2.out _ hSw; obtain ⟨⟨f1, f2, f3, f4, f5⟩, _⟩ := HG5.out _ hSw; go_simp <;> with_reducible rfl)
        try simp only [Act.put, List.setIfInBounds_toArray, List.set_cons_zero, List.set_cons_succ]
        refine wpAnyH_take (i := 14) (oi := { dst := some 114, op := _, type := _, pos := _, after := _, guard := _ }) (v := ?_) rfl (by kernel_rfl) (by kernel_rfl) (by kernel_rfl) (fun _ _ _ h => h) (Or.inl ⟨by rfl, ?_⟩) hHeld ?_
        rotate_left
        · (intro w hSw; obtain ⟨⟨b1, b2, b3, b4, b5⟩, _⟩ := HG7.out _ hSw; obtain ⟨⟨d1, d2, d3, d4, d5⟩, _⟩ := HG2.out _ hSw; obtain ⟨⟨f1, f2, f3, f4, f5⟩, _⟩ := HG5.out _ hSw; go_simp <;> with_reducible rfl)
        try simp only [Act.put, List.setIfInBounds_toArray, List.set_cons_zero, List.set_cons_succ]
        refine wpAnyH_take (i := 15) (oi := { dst := some 115, op := _, type := _, pos := _, after := _, guard := _ }) (v := ?_) rfl (by kernel_rfl) (by kernel_rfl) (by kernel_rfl) (fun _ _ _ h => h) (Or.inl ⟨by rfl, ?_⟩) hHeld ?_
        rotate_left
        · (intro w hSw; obtain ⟨⟨b1, b2, b3, b4, b5⟩, _⟩ := HG7.out _ hSw; obtain ⟨⟨d1, d2, d3, d4, d5⟩, _⟩ := HG2.out _ hSw; obtain ⟨⟨f1, f2, f3, f4, f5⟩, _⟩ := HG5.out _ hSw; go_simp <;> with_reducible rfl)
        try simp only [Act.put, List.setIfInBounds_toArray, List.set_cons_zero, List.set_cons_succ]
        refine wpAnyH_take (i := 17) (oi := { dst := some 117, op := _, type := _, pos := _, after := _, guard := _ }) (v := ?_) rfl (by kernel_rfl) (by kernel_rfl) (by kernel_rfl) (fun _ _ _ h => h) (Or.inl ⟨by rfl, ?_⟩) hHeld ?_
        rotate_left
        · (intro w hSw; obtain ⟨⟨b1, b2, b3, b4, b5⟩, _⟩ := HG7.out _ hSw; obtain ⟨⟨d1, d2, d3, d4, d5⟩, _⟩ := HG2.out _ hSw; obtain ⟨⟨f1, f2, f3, f4, f5⟩, _⟩ := HG5.out _ hSw; go_simp <;> with_reducible rfl)
        try simp only [Act.put, List.setIfInBounds_toArray, List.set_cons_zero, List.set_cons_succ]
        refine wpAnyH_ready (rs := [16]) (by kernel_rfl) (by simp) ?_
        refine AllReadyH.cons (o := { dst := some 116, op := _, type := _, pos := _, after := _, guard := _ }) rfl (fun K hK => ?_) AllReadyH.nil
        go_simp
        refine (HR.out _).mono ?_
        rintro e v6 ⟨⟨t6, E6, i6, j6, rfl, hf6', Z6⟩, hk6⟩
        have hKeep := since_step hHeld hk6
        have M6 := Z6.l64 hr64
        go_wp2_with fail
        refine hK.out _ _ (by (try dsimp only); exact hKeep) (fun hHeld => ?_)
        clear hK K hKeep
        try simp only [Act.put, List.setIfInBounds_toArray, List.set_cons_zero, List.set_cons_succ]
        refine wpAnyH_ready (rs := [18]) (by kernel_rfl) (by simp) ?_
        refine AllReadyH.cons (o := { dst := some 118, op := _, type := _, pos := _, after := _, guard := _ }) rfl (fun K hK => ?_) AllReadyH.nil
        go_simp
        refine (bcmp_any _ _ _ _ _ _ _ _ _ _ _ (by omega) (by omega) Z6 (HG5.out _ hHeld).2).mono ?_
        rintro e v7 ⟨rfl, hk7⟩
        have hKeep := since_step hHeld hk7
        rw [HC2.out]
        go_wp2_with fail
        refine hK.out _ _ (by (try dsimp only); exact hKeep) (fun hHeld => ?_)
        clear hK K hKeep
        try simp only [Act.put, List.setIfInBounds_toArray, List.set_cons_zero, List.set_cons_succ]
        refine wpAnyH_take (i := 19) (oi := { dst := some 119, op := _, type := _, pos := _, after := _, guard := _ }) (v := ?_) rfl (by kernel_rfl) (by kernel_rfl) (by kernel_rfl) (fun _ _ _ h => h) (Or.inl ⟨by rfl, ?_⟩) hHeld ?_
        rotate_left
        · (intro w hSw; obtain ⟨⟨b1, b2, b3, b4, b5⟩, _⟩ := HG7.out _ hSw; obtain ⟨⟨d1, d2, d3, d4, d5⟩, _⟩ := HG2.out _ hSw; obtain ⟨⟨f1, f2, f3, f4, f5⟩, _⟩ := HG5.out _ hSw; go_simp <;> with_reducible rfl)
        try simp only [Act.put, List.setIfInBounds_toArray, List.set_cons_zero, List.set_cons_succ]
        refine wpAnyH_take (i := 20) (oi := { dst := some 120, op := _, type := _, pos := _, after := _, guard := _ }) (v := ?_) rfl (by kernel_rfl) (by kernel_rfl) (by kernel_rfl) (fun _ _ _ h => h) (Or.inl ⟨by rfl, ?_⟩) hHeld ?_
        rotate_left
        · (intro w hSw; obtain ⟨⟨b1, b2, b3, b4, b5⟩, _⟩ := HG7.out _ hSw; obtain ⟨⟨d1, d2, d3, d4, d5⟩, _⟩ := HG2.out _ hSw; obtain ⟨⟨f1, f2, f3, f4, f5⟩, _⟩ := HG5.out _ hSw; go_simp <;> with_reducible rfl)
        try simp only [Act.put, List.setIfInBounds_toArray, List.set_cons_zero, List.set_cons_succ]
        refine wpAnyH_take (i := 21) (oi := { dst := some 121, op := _, type := _, pos := _, after := _, guard := _ }) (v := ?_) rfl (by kernel_rfl) (by kernel_rfl) (by kernel_rfl) (fun _ _ _ h => h) (Or.inl ⟨by rfl, ?_⟩) hHeld ?_
        rotate_left
        · (intro w hSw; obtain ⟨⟨b1, b2, b3, b4, b5⟩, _⟩ := HG7.out _ hSw; obtain ⟨⟨d1, d2, d3, d4, d5⟩, _⟩ := HG2.out _ hSw; obtain ⟨⟨f1, f2, f3, f4, f5⟩, _⟩ := HG5.out _ hSw; go_simp <;> with_reducible rfl)
        try simp only [Act.put, List.setIfInBounds_toArray, List.set_cons_zero, List.set_cons_succ]
        refine wpAnyH_take (i := 22) (oi := { dst := some 122, op := _, type := _, pos := _, after := _, guard := _ }) (v := ?_) rfl (by kernel_rfl) (by kernel_rfl) (by kernel_rfl) (fun _ _ _ h => h) (Or.inl ⟨by rfl, ?_⟩) hHeld ?_
        rotate_left
        · (intro w hSw; obtain ⟨⟨b1, b2, b3, b4, b5⟩, _⟩ := HG7.out _ hSw; obtain ⟨⟨d1, d2, d3, d4, d5⟩, _⟩ := HG2.out _ hSw; obtain ⟨⟨f1, f2, f3, f4, f5⟩, _⟩ := HG5.out _ hSw; go_simp <;> with_reducible rfl)
        try simp only [Act.put, List.setIfInBounds_toArray, List.set_cons_zero, List.set_cons_succ]
        refine wpAnyH_take (i := 23) (oi := { dst := some 123, op := _, type := _, pos := _, after := _, guard := _ }) (v := ?_) rfl (by kernel_rfl) (by kernel_rfl) (by kernel_rfl) (fun _ _ _ h => h) (Or.inl ⟨by rfl, ?_⟩) hHeld ?_
        rotate_left
        · (intro w hSw; obtain ⟨⟨b1, b2, b3, b4, b5⟩, _⟩ := HG7.out _ hSw; obtain ⟨⟨d1, d2, d3, d4, d5⟩, _⟩ := HG2.out _ hSw; obtain ⟨⟨f1, f2, f3, f4, f5⟩, _⟩ := HG5.out _ hSw; go_simp <;> with_reducible rfl)
        try simp only [Act.put, List.setIfInBounds_toArray, List.set_cons_zero, List.set_cons_succ]
        refine wpAnyH_take (i := 24) (oi := { dst := some 124, op := _, type := _, pos := _, after := _, guard := _ }) (v := ?_) rfl (by kernel_rfl) (by kernel_rfl) (by kernel_rfl) (fun _ _ _ h => h) (Or.inl ⟨by rfl, ?_⟩) hHeld ?_
        rotate_left
        · (intro w hSw; obtain ⟨⟨b1, b2, b3, b4, b5⟩, _⟩ := HG7.out _ hSw; obtain ⟨⟨d1, d2, d3, d4, d5⟩, _⟩ := HG2.out _ hSw; obtain ⟨⟨f1, f2, f3, f4, f5⟩, _⟩ := HG5.out _ hSw; go_simp <;> with_reducible rfl)
        try simp only [Act.put, List.setIfInBounds_toArray, List.set_cons_zero, List.set_cons_succ]
        refine wpAnyH_take (i := 25) (oi := { dst := some 125, op := _, type := _, pos := _, after := _, guard := _ }) (v := ?_) rfl (by kernel_rfl) (by kernel_rfl) (by kernel_rfl) (fun _ _ _ h => h) (Or.inl ⟨by rfl, ?_⟩) hHeld ?_
        rotate_left
        · (intro w hSw; obtain ⟨⟨b1, b2, b3, b4, b5⟩, _⟩ := HG7.out _ hSw; obtain ⟨⟨d1, d2, d3, d4, d5⟩, _⟩ := HG2.out _ hSw; obtain ⟨⟨f1, f2, f3, f4, f5⟩, _⟩ := HG5.out _ hSw; go_simp <;> with_reducible rfl)
        try simp only [Act.put, List.setIfInBounds_toArray, List.set_cons_zero, List.set_cons_succ]
        refine wpAnyH_take (i := 26) (oi := { dst := some 126, op := _, type := _, pos := _, after := _, guard := _ }) (v := ?_) rfl (by kernel_rfl) (by kernel_rfl) (by kernel_rfl) (fun _ _ _ h => h) (Or.inl ⟨by rfl, ?_⟩) hHeld ?_
        rotate_left
        · (intro w hSw; obtain ⟨⟨b1, b2, b3, b4, b5⟩, _⟩ := HG7.out _ hSw; obtain ⟨⟨d1, d2, d3, d4, d5⟩, _⟩ := HG2.out _ hSw; obtain ⟨⟨f1, f2, f3, f4, f5⟩, _⟩ := HG5.out _ hSw; go_simp <;> with_reducible rfl)
        try simp only [Act.put, List.setIfInBounds_toArray, List.set_cons_zero, List.set_cons_succ]
        refine wpAnyH_take (i := 27) (oi := { dst := some 127, op := _, type := _, pos := _, after := _, guard := _ }) (v := ?_) rfl (by kernel_rfl) (by kernel_rfl) (by kernel_rfl) (fun _ _ _ h => h) (Or.inl ⟨by rfl, ?_⟩) hHeld ?_
        rotate_left
        · (intro w hSw; obtain ⟨⟨b1, b2, b3, b4, b5⟩, _⟩ := HG7.out _ hSw; obtain ⟨⟨d1, d2, d3, d4, d5⟩, _⟩ := HG2.out _ hSw; obtain ⟨⟨f1, f2, f3, f4, f5⟩, _⟩ := HG5.out _ hSw; go_simp <;> with_reducible rfl)
        try simp only [Act.put, List.setIfInBounds_toArray, List.set_cons_zero, List.set_cons_succ]
        refine wpAnyH_take (i := 28) (oi := { dst := some 128, op := _, type := _, pos := _, after := _, guard := _ }) (v := ?_) rfl (by kernel_rfl) (by kernel_rfl) (by kernel_rfl) (fun _ _ _ h => h) (Or.inl ⟨by rfl, ?_⟩) hHeld ?_
        rotate_left
        · (intro w hSw; obtain ⟨⟨b1, b2, b3, b4, b5⟩, _⟩ := HG7.out _ hSw; obtain ⟨⟨d1, d2, d3, d4, d5⟩, _⟩ := HG2.out _ hSw; obtain ⟨⟨f1, f2, f3, f4, f5⟩, _⟩ := HG5.out _ hSw; go_simp <;> with_reducible rfl)
        try simp only [Act.put, List.setIfInBounds_toArray, List.set_cons_zero, List.set_cons_succ]
        refine wpAnyH_take (i := 29) (oi := { dst := some 129, op := _, type := _, pos := _, after := _, guard := _ }) (v := ?_) rfl (by kernel_rfl) (by kernel_rfl) (by kernel_rfl) (fun _ _ _ h => h) (Or.inl ⟨by rfl, ?_⟩) hHeld ?_
        rotate_left
        · (intro w hSw; obtain ⟨⟨b1, b2, b3, b4, b5⟩, _⟩ := HG7.out _ hSw; obtain ⟨⟨d1, d2, d3, d4, d5⟩, _⟩ := HG2.out _ hSw; obtain ⟨⟨f1, f2, f3, f4, f5⟩, _⟩ := HG5.out _ hSw; go_simp <;> with_reducible rfl)
        try simp only [Act.put, List.setIfInBounds_toArray, List.set_cons_zero, List.set_cons_succ]
        refine wpAnyH_take (i := 30) (oi := { dst := some 130, op := _, type := _, pos := _, after := _, guard := _ }) (v := ?_) rfl (by kernel_rfl) (by kernel_rfl) (by kernel_rfl) (fun _ _ _ h => h) (Or.inl ⟨by rfl, ?_⟩) hHeld ?_
        rotate_left
        · (intro w hSw; obtain ⟨⟨b1, b2, b3, b4, b5⟩, _⟩ := HG7.out _ hSw; obtain ⟨⟨d1, d2, d3, d4, d5⟩, _⟩ := HG2.out _ hSw; obtain ⟨⟨f1, f2, f3, f4, f5⟩, _⟩ := HG5.out _ hSw; go_simp <;> with_reducible rfl)
        try simp only [Act.put, List.setIfInBounds_toArray, List.set_cons_zero, List.set_cons_succ]
        refine wpAnyH_take (i := 31) (oi := { dst := some 131, op := _, type := _, pos := _, after := _, guard := _ }) (v := ?_) rfl (by kernel_rfl) (by kernel_rfl) (by kernel_rfl) (fun _ _ _ h => h) (Or.inl ⟨by rfl, ?_⟩) hHeld ?_
        rotate_left
        · (intro w hSw; obtain ⟨⟨b1, b2, b3, b4, b5⟩, _⟩ := HG7.out _ hSw; obtain ⟨⟨d1, d2, d3, d4, d5⟩, _⟩ := HG2.out _ hSw; obtain ⟨⟨f1, f2, f3, f4, f5⟩, _⟩ := HG5.out _ hSw; go_simp <;> with_reducible rfl)
        try simp only [Act.put, List.setIfInBounds_toArray, List.set_cons_zero, List.set_cons_succ]
        refine wpAnyH_ready (rs := [32]) (by kernel_rfl) (by simp) ?_
        refine AllReadyH.cons (o := { dst := some 132, op := _, type := _, pos := _, after := _, guard := _ }) rfl (fun K hK => ?_) AllReadyH.nil
        go_simp
        refine (lives22_any _).mono ?_
        rintro e v8 ⟨rfl, hk8⟩
        have hKeep := since_step hHeld hk8
        go_wp2_with fail
        refine hK.out _ _ (by (try dsimp only); exact hKeep) (fun hHeld => ?_)
        clear hK K hKeep
        try simp only [Act.put, List.setIfInBounds_toArray, List.set_cons_zero, List.set_cons_succ]
        refine wpAnyH_take (i := 33) (oi := { dst := some 133, op := _, type := _, pos := _, after := _, guard := _ }) (v := ?_) rfl (by kernel_rfl) (by kernel_rfl) (by kernel_rfl) (fun _ _ _ h => h) (Or.inl ⟨by rfl, ?_⟩) hHeld ?_
        rotate_left
        · (intro w hSw; obtain ⟨⟨b1, b2, b3, b4, b5⟩, _⟩ := HG7.out _ hSw; obtain ⟨⟨d1, d2, d3, d4, d5⟩, _⟩ := HG2.out _ hSw; obtain ⟨⟨f1, f2, f3, f4, f5⟩, _⟩ := HG5.out _ hSw; go_simp <;> with_reducible rfl)
        try simp only [Act.put, List.setIfInBounds_toArray, List.set_cons_zero, List.set_cons_succ]
        refine wpAnyH_take (i := 34) (oi := { dst := some 2, op := _, type := _, pos := _, after := _, guard := _ }) (v := ?_) rfl (by kernel_rfl) (by kernel_rfl) (by kernel_rfl) (fun _ _ _ h => h) (Or.inl ⟨by rfl, ?_⟩) hHeld ?_
        rotate_left
        · (intro w hSw; obtain ⟨⟨b1, b2, b3, b4, b5⟩, _⟩ := HG7.out _ hSw; obtain ⟨⟨d1, d2, d3, d4, d5⟩, _⟩ := HG2.out _ hSw; obtain ⟨⟨f1, f2, f3, f4, f5⟩, _⟩ := HG5.out _ hSw; go_simp <;> with_reducible rfl)
        try simp only [Act.put, List.setIfInBounds_toArray, List.set_cons_zero, List.set_cons_succ]
        refine wpAnyH_done (by kernel_rfl) ?_ _
        have hBf := hB11.trans (hHeld.mono hszW)
        go_wp2_with fail
        go_ret
        exact ⟨rfl, hBf⟩
      · rw [if_neg hneg] at h3
        clear q0 q1 q2 a0' a1'
        go_wp2_with fail
        refine (HR.out _).mono ?_
        rintro e w6 ⟨⟨s1, A1, m1, k1, rfl, hf1, Y1⟩, hk1⟩
        have L1 := Y1.l64 hr64
        have hl1 := Y1.lt
        have G7 := G7.below hk1
        have Y7 := Y7.below hk1
        have hl7' := Y7.lt
        have hB6 := since_step hBw hk1
        have hA := (Below.refl w6.heap.size w6).alloc (Nat.le_refl _) (.cells #[.bool s1, .slice A1 m1 k1] 69)
        have G1 := BB.new w6 s1 A1 m1 k1 69
        have Y1 := Y1.below hA
        have G7 := G7.below hA
        have Y7 := Y7.below hA
        have hB7 := since_step hB6 hA
        have hg7 := hBw.size
        have hg7' := hk1.size
        clear hA hk1
        have hG7z : B.heap.size < wr.heap.size := hG7w
        have G2 := G1
        have Y2 := Y1
        have hB9 := hB7
        go_upto_region 18 with fail
        generalize hWW : w6.alloc (.cells #[.bool s1, .slice A1 m1 k1] 69) = W8 at *
        clear hWW
        go_wp2_with fail
        refine (HQ.out _).mono ?_
        rintro e w9 ⟨⟨s5, A5, m5, k5, rfl, hf5, Y5⟩, hk5⟩
        have L5 := Y5.l64 hq64
        have hl5 := Y5.lt
        have G7 := G7.below hk5
        have Y7 := Y7.below hk5
        have G2 := G2.below hk5
        have Y2 := Y2.below hk5
        have hB10 := since_step hB9 hk5
        have hA := (Below.refl w9.heap.size w9).alloc (Nat.le_refl _) (.cells #[.bool false, .slice A5 m5 k5] 69)
        have G5 := BB.new w9 false A5 m5 k5 69
        have Y5 := Y5.abs.below hA
        have G7 := G7.below hA
        have Y7 := Y7.below hA
        have G2 := G2.below hA
        have Y2 := Y2.below hA
        have hB11 := since_step hB10 hA
        go_upto_region 20 with fail
        generalize hWW : w9.alloc (.cells #[.bool false, .slice A5 m5 k5] 69) = W at *
        clear hWW hA hk5
        have HG7 : Hid (∀ V, Below W.heap.size W V → BB V B.heap.size s7 A7 n7 c7 ∧ BigAt V s7 A7 n7 c7 z) := Lib.hid fun V hV => ⟨G7.below hV, Y7.below hV⟩
        have HG2 : Hid (∀ V, Below W.heap.size W V → BB V w6.heap.size s1 A1 m1 k1 ∧ BigAt V s1 A1 m1 k1 r) := Lib.hid fun V hV => ⟨G2.below hV, Y2.below hV⟩
        have HG5 : Hid (∀ V, Below W.heap.size W V → BB V w9.heap.size false A5 m5 k5 ∧ BigAt V false A5 m5 k5 (q.natAbs : Int)) := Lib.hid fun V hV => ⟨G5.below hV, Y5.below hV⟩
        have hc1 : cmpZ (q * a + r) z = 0 := by rw [h3]; exact cmp_same z
        have HC1 := Lib.hid hc1
        have hszW := hB11.size
        clear G7 Y7 G2 Y2 G5 Y5 hc1 h3
        go_wp2_with fail
        refine wp_region_held_drew (S := (fun V => Below W.heap.size W V)) (by kernel_rfl) (by exact (Below.refl _ _).drew) (fun hHeld => ?_)
        refine wpAnyH_take (i := 0) (oi := { dst := some 100, op := _, type := _, pos := _, after := _, guard := _ }) (v := ?_) rfl (by kernel_rfl) (by kernel_rfl) (by kernel_rfl) (fun _ _ _ h => h) (Or.inl ⟨by rfl, ?_⟩) hHeld ?_
        rotate_left
        · (intro w hSw; obtain ⟨⟨b1, b2, b3, b4, b5⟩, _⟩ := HG7.out _ hSw; obtain ⟨⟨d1, d2, d3, d4, d5⟩, _⟩ := HG2.out _ hSw; obtain ⟨⟨f1, f2, f3, f4, f5⟩, _⟩ := HG5.out _ hSw; go_simp <;> with_reducible rfl)
        try simp only [Act.put, List.setIfInBounds_toArray, List.set_cons_zero, List.set_cons_succ]
        refine wpAnyH_take (i := 2) (oi := { dst := some 102, op := _, type := _, pos := _, after := _, guard := _ }) (v := ?_) rfl (by kernel_rfl) (by kernel_rfl) (by kernel_rfl) (fun _ _ _ h => h) (Or.inl ⟨by rfl, ?_⟩) hHeld ?_
        rotate_left
        · (intro w hSw; obtain ⟨⟨b1, b2, b3, b4, b5⟩, _⟩ := HG7.out _ hSw; obtain ⟨⟨d1, d2, d3, d4, d5⟩, _⟩ := HG2.out _ hSw; obtain ⟨⟨f1, f2, f3, f4, f5⟩, _⟩ := HG5.out _ hSw; go_simp <;> with_reducible rfl)
        try simp only [Act.put, List.setIfInBounds_toArray, List.set_cons_zero, List.set_cons_succ]
        refine wpAnyH_take (i := 5) (oi := { dst := some 105, op := _, type := _, pos := _, after := _, guard := _ }) (v := ?_) rfl (by kernel_rfl) (by kernel_rfl) (by kernel_rfl) (fun _ _ _ h => h) (Or.inl ⟨by rfl, ?_⟩) hHeld ?_
        rotate_left
        · (intro w hSw; obtain ⟨⟨b1, b2, b3, b4, b5⟩, _⟩ := HG7.out _ hSw; obtain ⟨⟨d1, d2, d3, d4, d5⟩, _⟩ := HG2.out _ hSw; obtain ⟨⟨f1, f2, f3, f4, f5⟩, _⟩ := HG5.out _ hSw; go_simp <;> with_reducible rfl)
        try simp only [Act.put, List.setIfInBounds_toArray, List.set_cons_zero, List.set_cons_succ]
        refine wpAnyH_take (i := 7) (oi := { dst := some 107, op := _, type := _, pos := _, after := _, guard := _ }) (v := ?_) rfl (by kernel_rfl) (by kernel_rfl) (by kernel_rfl) (fun _ _ _ h => h) (Or.inl ⟨by rfl, ?_⟩) hHeld ?_
        rotate_left
        · (intro w hSw; obtain ⟨⟨b1, b2, b3, b4, b5⟩, _⟩ := HG7.out _ hSw; obtain ⟨⟨d1, d2, d3, d4, d5⟩, _⟩ := HG2.out _ hSw; obtain ⟨⟨f1, f2, f3, f4, f5⟩, _⟩ := HG5.out _ hSw; go_simp <;> with_reducible rfl)
        try simp only [Act.put, List.setIfInBounds_toArray, List.set_cons_zero, List.set_cons_succ]
        refine wpAnyH_ready (rs := [1]) (by kernel_rfl) (by simp) ?_
        refine AllReadyH.cons (o := { dst := some 101, op := _, type := _, pos := _, after := _, guard := _ }) rfl (fun K hK => ?_) AllReadyH.nil
        go_simp
        refine (HQ.out _).mono ?_
        rintro e v1 ⟨⟨t1, E1, i1, j1, rfl, hf1', Z1⟩, hk1⟩
        have hKeep := since_step hHeld hk1
        have M1 := Z1.l64 hq64
        go_wp2_with fail
        refine hK.out _ _ (by (try dsimp only); exact hKeep) (fun hHeld => ?_)
        clear hK K hKeep
        try simp only [Act.put, List.setIfInBounds_toArray, List.set_cons_zero, List.set_cons_succ]
        refine wpAnyH_ready (rs := [3]) (by kernel_rfl) (by simp) ?_
        refine AllReadyH.cons (o := { dst := some 103, op := _, type := _, pos := _, after := _, guard := _ }) rfl (fun K hK => ?_) AllReadyH.nil
        go_simp
        refine (HA.out _).mono ?_
        rintro e v2 ⟨⟨t2, E2, i2, j2, rfl, hf2', Z2⟩, hk2⟩
        have hKeep := since_step hHeld hk2
        have M2 := Z2.l64 ha64
        have Z1 := Z1.below hk2
        go_wp2_with fail
        refine hK.out _ _ (by (try dsimp only); exact hKeep) (fun hHeld => ?_)
        clear hK K hKeep
        try simp only [Act.put, List.setIfInBounds_toArray, List.set_cons_zero, List.set_cons_succ]
        refine wpAnyH_ready (rs := [4]) (by kernel_rfl) (by simp) ?_
        refine AllReadyH.cons (o := { dst := some 104, op := _, type := _, pos := _, after := _, guard := _ }) rfl (fun K hK => ?_) AllReadyH.nil
        go_simp
        refine (bmul_any _ _ _ _ _ _ _ _ _ _ _ (by omega) (by omega) Z1 Z2).mono ?_
        rintro e v3 ⟨⟨t3, E3, i3, j3, rfl, hf3', Z3⟩, hk3⟩
        have hKeep := since_step hHeld hk3
        have M3 := len_mul Z1 Z2 Z3
        go_wp2_with fail
        refine hK.out _ _ (by (try dsimp only); exact hKeep) (fun hHeld => ?_)
        clear hK K hKeep
        try simp only [Act.put, List.setIfInBounds_toArray, List.set_cons_zero, List.set_cons_succ]
        refine wpAnyH_ready (rs := [6]) (by kernel_rfl) (by simp) ?_
        refine AllReadyH.cons (o := { dst := some 106, op := _, type := _, pos := _, after := _, guard := _ }) rfl (fun K hK => ?_) AllReadyH.nil
        go_simp
        refine (badd' (by omega) (by omega) Z3 (HG2.out _ hHeld).2).mono ?_
        rintro e v4 ⟨⟨t4, E4, i4, j4, rfl, hf4', Z4⟩, hk4⟩
        have hKeep := since_step hHeld hk4
        have M4 := len_add Z3 (HG2.out _ hHeld).2 Z4
        go_wp2_with fail
        refine hK.out _ _ (by (try dsimp only); exact hKeep) (fun hHeld => ?_)
        clear hK K hKeep
        try simp only [Act.put, List.setIfInBounds_toArray, List.set_cons_zero, List.set_cons_succ]
        refine wpAnyH_ready (rs := [8]) (by kernel_rfl) (by simp) ?_
        refine AllReadyH.cons (o := { dst := some 108, op := _, type := _, pos := _, after := _, guard := _ }) rfl (fun K hK => ?_) AllReadyH.nil
        go_simp
        refine (bcmp_any _ _ _ _ _ _ _ _ _ _ _ (by omega) (by omega) Z4 (HG7.out _ hHeld).2).mono ?_
        rintro e v5 ⟨rfl, hk5⟩
        have hKeep := since_step hHeld hk5
        rw [HC1.out]
        go_wp2_with fail
        refine hK.out _ _ (by (try dsimp only); exact hKeep) (fun hHeld => ?_)
        clear hK K hKeep
        try simp only [Act.put, List.setIfInBounds_toArray, List.set_cons_zero, List.set_cons_succ]
        refine wpAnyH_take (i := 9) (oi := { dst := some 109, op := _, type := _, pos := _, after := _, guard := _ }) (v := ?_) rfl (by kernel_rfl) (by kernel_rfl) (by kernel_rfl) (fun _ _ _ h => h) (Or.inl ⟨by rfl, ?_⟩) hHeld ?_
        rotate_left
        · (intro w hSw; obtain ⟨⟨b1, b2, b3, b4, b5⟩, _⟩ := HG7.out _ hSw; obtain ⟨⟨d1, d2, d3, d4, d5⟩, _⟩ := HG2.out _ hSw; obtain ⟨⟨f1, f2, f3, f4, f5⟩, _⟩ := HG5.out _ hSw; go_simp <;> with_reducible rfl)
        try simp only [Act.put, List.setIfInBounds_toArray, List.set_cons_zero, List.set_cons_succ]
        refine wpAnyH_take (i := 10) (oi := { dst := some 110, op := _, type := _, pos := _, after := _, guard := _ }) (v := ?_) rfl (by kernel_rfl) (by kernel_rfl) (by kernel_rfl) (fun _ _ _ h => h) (Or.inl ⟨by rfl, ?_⟩) hHeld ?_
        rotate_left
        · (intro w hSw; obtain ⟨⟨b1, b2, b3, b4, b5⟩, _⟩ := HG7.out _ hSw; obtain ⟨⟨d1, d2, d3, d4, d5⟩, _⟩ := HG2.out _ hSw; obtain ⟨⟨f1, f2, f3, f4, f5⟩, _⟩ := HG5.out _ hSw; go_simp <;> with_reducible rfl)
        try simp only [Act.put, List.setIfInBounds_toArray, List.set_cons_zero, List.set_cons_succ]
        refine wpAnyH_take (i := 11) (oi := { dst := some 111, op := _, type := _, pos := _, after := _, guard := _ }) (v := ?_) rfl (by kernel_rfl) (by kernel_rfl) (by kernel_rfl) (fun _ _ _ h => h) (Or.inl ⟨by rfl, ?_⟩) hHeld ?_
        rotate_left
        · (intro w hSw; obtain ⟨⟨b1, b2, b3, b4, b5⟩, _⟩ := HG7.out _ hSw; obtain ⟨⟨d1, d2, d3, d4, d5⟩, _⟩ := HG2.out _ hSw; obtain ⟨⟨f1, f2, f3, f4, f5⟩, _⟩ := HG5.out _ hSw; go_simp <;> with_reducible rfl)
        try simp only [Act.put, List.setIfInBounds_toArray, List.set_cons_zero, List.set_cons_succ]
        refine wpAnyH_take (i := 12) (oi := { dst := some 112, op := _, type := _, pos := _, after := _, guard := _ }) (v := ?_) rfl (by kernel_rfl) (by kernel_rfl) (by kernel_rfl) (fun _ _ _ h => h) (Or.inl ⟨by rfl, ?_⟩) hHeld ?_
        rotate_left
        · (intro w hSw; obtain ⟨⟨b1, b2, b3, b4, b5⟩, _⟩ := HG7.out _ hSw; obtain ⟨⟨d1, d2, d3, d4, d5⟩, _⟩ := HG2.out _ hSw; obtain ⟨⟨f1, f2, f3, f4, f5⟩, _⟩ := HG5.out _ hSw; go_simp <;> with_reducible rfl)
        try simp only [Act.put, List.setIfInBounds_toArray, List.set_cons_zero, List.set_cons_succ]
        refine wpAnyH_take (i := 13) (oi := { dst := some 113, op := _, type := _, pos := _, after := _, guard := _ }) (v := ?_) rfl (by kernel_rfl) (by kernel_rfl) (by kernel_rfl) (fun _ _ _ h => h) (Or.inl ⟨by rfl, ?_⟩) hHeld ?_
        rotate_left
        · (intro w hSw; obtain ⟨⟨b1, b2, b3, b4, b5⟩, _⟩ := HG7.out _ hSw; obtain ⟨⟨d1, d2, d3, d4, d5⟩, _⟩ := HG2.out _ hSw; obtain ⟨⟨f1, f2, f3, f4, f5⟩, _⟩ := HG5.out _ hSw; go_simp <;> with_reducible rfl)
        try simp only [Act.put, List.setIfInBounds_toArray, List.set_cons_zero, List.set_cons_succ]
        refine wpAnyH_take (i := 14) (oi := { dst := some 114, op := _, type := _, pos := _, after := _, guard := _ }) (v := ?_) rfl (by kernel_rfl) (by kernel_rfl) (by kernel_rfl) (fun _ _ _ h => h) (Or.inl ⟨by rfl, ?_⟩) hHeld ?_
        rotate_left
        · (intro w hSw; obtain ⟨⟨b1, b2, b3, b4, b5⟩, _⟩ := HG7.out _ hSw; obtain ⟨⟨d1, d2, d3, d4, d5⟩, _⟩ := HG2.out _ hSw; obtain ⟨⟨f1, f2, f3, f4, f5⟩, _⟩ := HG5.out _ hSw; go_simp <;> with_reducible rfl)
        try simp only [Act.put, List.setIfInBounds_toArray, List.set_cons_zero, List.set_cons_succ]
        refine wpAnyH_take (i := 15) (oi := { dst := some 115, op := _, type := _, pos := _, after := _, guard := _ }) (v := ?_) rfl (by kernel_rfl) (by kernel_rfl) (by kernel_rfl) (fun _ _ _ h => h) (Or.inl ⟨by rfl, ?_⟩) hHeld ?_
        rotate_left
        · (intro w hSw; obtain ⟨⟨b1, b2, b3, b4, b5⟩, _⟩ := HG7.out _ hSw; obtain ⟨⟨d1, d2, d3, d4, d5⟩, _⟩ := HG2.out _ hSw; obtain ⟨⟨f1, f2, f3, f4, f5⟩, _⟩ := HG5.out _ hSw; go_simp <;> with_reducible rfl)
        try simp only [Act.put, List.setIfInBounds_toArray, List.set_cons_zero, List.set_cons_succ]
        refine wpAnyH_take (i := 17) (oi := { dst := some 117, op := _, type := _, pos := _, after := _, guard := _ }) (v := ?_) rfl (by kernel_rfl) (by kernel_rfl) (by kernel_rfl) (fun _ _ _ h => h) (Or.inl ⟨by rfl, ?_⟩) hHeld ?_
        rotate_left
        · (intro w hSw; obtain ⟨⟨b1, b2, b3, b4, b5⟩, _⟩ := HG7.out _ hSw; obtain ⟨⟨d1, d2, d3, d4, d5⟩, _⟩ := HG2.out _ hSw; obtain ⟨⟨f1, f2, f3, f4, f5⟩, _⟩ := HG5.out _ hSw; go_simp <;> with_reducible rfl)
        try simp only [Act.put, List.setIfInBounds_toArray, List.set_cons_zero, List.set_cons_succ]
        refine wpAnyH_ready (rs := [16]) (by kernel_rfl) (by simp) ?_
        refine AllReadyH.cons (o := { dst := some 116, op := _, type := _, pos := _, after := _, guard := _ }) rfl (fun K hK => ?_) AllReadyH.nil
        go_simp
        refine (HR.out _).mono ?_
        rintro e v6 ⟨⟨t6, E6, i6, j6, rfl, hf6', Z6⟩, hk6⟩
        have hKeep := since_step hHeld hk6
        have M6 := Z6.l64 hr64
        go_wp2_with fail
        refine hK.out _ _ (by (try dsimp only); exact hKeep) (fun hHeld => ?_)
        clear hK K hKeep
        try simp only [Act.put, List.setIfInBounds_toArray, List.set_cons_zero, List.set_cons_succ]
        refine wpAnyH_ready (rs := [18]) (by kernel_rfl) (by simp) ?_
        refine AllReadyH.cons (o := { dst := some 118, op := _, type := _, pos := _, after := _, guard := _ }) rfl (fun K hK => ?_) AllReadyH.nil
        go_simp
        refine (bcmp_any _ _ _ _ _ _ _ _ _ _ _ (by omega) (by omega) Z6 (HG5.out _ hHeld).2).mono ?_
        rintro e v7 ⟨rfl, hk7⟩
        have hKeep := since_step hHeld hk7
        rw [HC2.out]
        go_wp2_with fail
        refine hK.out _ _ (by (try dsimp only); exact hKeep) (fun hHeld => ?_)
        clear hK K hKeep
        try simp only [Act.put, List.setIfInBounds_toArray, List.set_cons_zero, List.set_cons_succ]
        refine wpAnyH_take (i := 19) (oi := { dst := some 119, op := _, type := _, pos := _, after := _, guard := _ }) (v := ?_) rfl (by kernel_rfl) (by kernel_rfl) (by kernel_rfl) (fun _ _ _ h => h) (Or.inl ⟨by rfl, ?_⟩) hHeld ?_
        rotate_left
        · (intro w hSw; obtain ⟨⟨b1, b2, b3, b4, b5⟩, _⟩ := HG7.out _ hSw; obtain ⟨⟨d1, d2, d3, d4, d5⟩, _⟩ := HG2.out _ hSw; obtain ⟨⟨f1, f2, f3, f4, f5⟩, _⟩ := HG5.out _ hSw; go_simp <;> with_reducible rfl)
        try simp only [Act.put, List.setIfInBounds_toArray, List.set_cons_zero, List.set_cons_succ]
        refine wpAnyH_take (i := 20) (oi := { dst := some 120, op := _, type := _, pos := _, after := _, guard := _ }) (v := ?_) rfl (by kernel_rfl) (by kernel_rfl) (by kernel_rfl) (fun _ _ _ h => h) (Or.inl ⟨by rfl, ?_⟩) hHeld ?_
        rotate_left
        · (intro w hSw; obtain ⟨⟨b1, b2, b3, b4, b5⟩, _⟩ := HG7.out _ hSw; obtain ⟨⟨d1, d2, d3, d4, d5⟩, _⟩ := HG2.out _ hSw; obtain ⟨⟨f1, f2, f3, f4, f5⟩, _⟩ := HG5.out _ hSw; go_simp <;> with_reducible rfl)
        try simp only [Act.put, List.setIfInBounds_toArray, List.set_cons_zero, List.set_cons_succ]
        refine wpAnyH_take (i := 21) (oi := { dst := some 121, op := _, type := _, pos := _, after := _, guard := _ }) (v := ?_) rfl (by kernel_rfl) (by kernel_rfl) (by kernel_rfl) (fun _ _ _ h => h) (Or.inl ⟨by rfl, ?_⟩) hHeld ?_
        rotate_left
        · (intro w hSw; obtain ⟨⟨b1, b2, b3, b4, b5⟩, _⟩ := HG7.out _ hSw; obtain ⟨⟨d1, d2, d3, d4, d5⟩, _⟩ := HG2.out _ hSw; obtain ⟨⟨f1, f2, f3, f4, f5⟩, _⟩ := HG5.out _ hSw; go_simp <;> with_reducible rfl)
        try simp only [Act.put, List.setIfInBounds_toArray, List.set_cons_zero, List.set_cons_succ]
        refine wpAnyH_take (i := 22) (oi := { dst := some 122, op := _, type := _, pos := _, after := _, guard := _ }) (v := ?_) rfl (by kernel_rfl) (by kernel_rfl) (by kernel_rfl) (fun _ _ _ h => h) (Or.inl ⟨by rfl, ?_⟩) hHeld ?_
        rotate_left
        · (intro w hSw; obtain ⟨⟨b1, b2, b3, b4, b5⟩, _⟩ := HG7.out _ hSw; obtain ⟨⟨d1, d2, d3, d4, d5⟩, _⟩ := HG2.out _ hSw; obtain ⟨⟨f1, f2, f3, f4, f5⟩, _⟩ := HG5.out _ hSw; go_simp <;> with_reducible rfl)
        try simp only [Act.put, List.setIfInBounds_toArray, List.set_cons_zero, List.set_cons_succ]
        refine wpAnyH_take (i := 23) (oi := { dst := some 123, op := _, type := _, pos := _, after := _, guard := _ }) (v := ?_) rfl (by kernel_rfl) (by kernel_rfl) (by kernel_rfl) (fun _ _ _ h => h) (Or.inl ⟨by rfl, ?_⟩) hHeld ?_
        rotate_left
        · (intro w hSw; obtain ⟨⟨b1, b2, b3, b4, b5⟩, _⟩ := HG7.out _ hSw; obtain ⟨⟨d1, d2, d3, d4, d5⟩, _⟩ := HG2.out _ hSw; obtain ⟨⟨f1, f2, f3, f4, f5⟩, _⟩ := HG5.out _ hSw; go_simp <;> with_reducible rfl)
        try simp only [Act.put, List.setIfInBounds_toArray, List.set_cons_zero, List.set_cons_succ]
        refine wpAnyH_take (i := 24) (oi := { dst := some 124, op := _, type := _, pos := _, after := _, guard := _ }) (v := ?_) rfl (by kernel_rfl) (by kernel_rfl) (by kernel_rfl) (fun _ _ _ h => h) (Or.inl ⟨by rfl, ?_⟩) hHeld ?_
        rotate_left
        · (intro w hSw; obtain ⟨⟨b1, b2, b3, b4, b5⟩, _⟩ := HG7.out _ hSw; obtain ⟨⟨d1, d2, d3, d4, d5⟩, _⟩ := HG2.out _ hSw; obtain ⟨⟨f1, f2, f3, f4, f5⟩, _⟩ := HG5.out _ hSw; go_simp <;> with_reducible rfl)
        try simp only [Act.put, List.setIfInBounds_toArray, List.set_cons_zero, List.set_cons_succ]
        refine wpAnyH_take (i := 25) (oi := { dst := some 125, op := _, type := _, pos := _, after := _, guard := _ }) (v := ?_) rfl (by kernel_rfl) (by kernel_rfl) (by kernel_rfl) (fun _ _ _ h => h) (Or.inl ⟨by rfl, ?_⟩) hHeld ?_
        rotate_left
        · (intro w hSw; obtain ⟨⟨b1, b2, b3, b4, b5⟩, _⟩ := HG7.out _ hSw; obtain ⟨⟨d1, d2, d3, d4, d5⟩, _⟩ := HG2.out _ hSw; obtain ⟨⟨f1, f2, f3, f4, f5⟩, _⟩ := HG5.out _ hSw; go_simp <;> with_reducible rfl)
        try simp only [Act.put, List.setIfInBounds_toArray, List.set_cons_zero, List.set_cons_succ]
        refine wpAnyH_take (i := 26) (oi := { dst := some 126, op := _, type := _, pos := _, after := _, guard := _ }) (v := ?_) rfl (by kernel_rfl) (by kernel_rfl) (by kernel_rfl) (fun _ _ _ h => h) (Or.inl ⟨by rfl, ?_⟩) hHeld ?_
        rotate_left
        · (intro w hSw; obtain ⟨⟨b1, b2, b3, b4, b5⟩, _⟩ := HG7.out _ hSw; obtain ⟨⟨d1, d2, d3, d4, d5⟩, _⟩ := HG2.out _ hSw; obtain ⟨⟨f1, f2, f3, f4, f5⟩, _⟩ := HG5.out _ hSw; go_simp <;> with_reducible rfl)
        try simp only [Act.put, List.setIfInBounds_toArray, List.set_cons_zero, List.set_cons_succ]
        refine wpAnyH_take (i := 27) (oi := { dst := some 127, op := _, type := _, pos := _, after := _, guard := _ }) (v := ?_) rfl (by kernel_rfl) (by kernel_rfl) (by kernel_rfl) (fun _ _ _ h => h) (Or.inl ⟨by rfl, ?_⟩) hHeld ?_
        rotate_left
        · (intro w hSw; obtain ⟨⟨b1, b2, b3, b4, b5⟩, _⟩ := HG7.out _ hSw; obtain ⟨⟨d1, d2, d3, d4, d5⟩, _⟩ := HG2.out _ hSw; obtain ⟨⟨f1, f2, f3, f4, f5⟩, _⟩ := HG5.out _ hSw; go_simp <;> with_reducible rfl)
        try simp only [Act.put, List.setIfInBounds_toArray, List.set_cons_zero, List.set_cons_succ]
        refine wpAnyH_take (i := 28) (oi := { dst := some 128, op := _, type := _, pos := _, after := _, guard := _ }) (v := ?_) rfl (by kernel_rfl) (by kernel_rfl) (by kernel_rfl) (fun _ _ _ h => h) (Or.inl ⟨by rfl, ?_⟩) hHeld ?_
        rotate_left
        · (intro w hSw; obtain ⟨⟨b1, b2, b3, b4, b5⟩, _⟩ := HG7.out _ hSw; obtain ⟨⟨d1, d2, d3, d4, d5⟩, _⟩ := HG2.out _ hSw; obtain ⟨⟨f1, f2, f3, f4, f5⟩, _⟩ := HG5.out _ hSw; go_simp <;> with_reducible rfl)
        try simp only [Act.put, List.setIfInBounds_toArray, List.set_cons_zero, List.set_cons_succ]
        refine wpAnyH_take (i := 29) (oi := { dst := some 129, op := _, type := _, pos := _, after := _, guard := _ }) (v := ?_) rfl (by kernel_rfl) (by kernel_rfl) (by kernel_rfl) (fun _ _ _ h => h) (Or.inl ⟨by rfl, ?_⟩) hHeld ?_
        rotate_left
        · (intro w hSw; obtain ⟨⟨b1, b2, b3, b4, b5⟩, _⟩ := HG7.out _ hSw; obtain ⟨⟨d1, d2, d3, d4, d5⟩, _⟩ := HG2.out _ hSw; obtain ⟨⟨f1, f2, f3, f4, f5⟩, _⟩ := HG5.out _ hSw; go_simp <;> with_reducible rfl)
        try simp only [Act.put, List.setIfInBounds_toArray, List.set_cons_zero, List.set_cons_succ]
        refine wpAnyH_take (i := 30) (oi := { dst := some 130, op := _, type := _, pos := _, after := _, guard := _ }) (v := ?_) rfl (by kernel_rfl) (by kernel_rfl) (by kernel_rfl) (fun _ _ _ h => h) (Or.inl ⟨by rfl, ?_⟩) hHeld ?_
        rotate_left
        · (intro w hSw; obtain ⟨⟨b1, b2, b3, b4, b5⟩, _⟩ := HG7.out _ hSw; obtain ⟨⟨d1, d2, d3, d4, d5⟩, _⟩ := HG2.out _ hSw; obtain ⟨⟨f1, f2, f3, f4, f5⟩, _⟩ := HG5.out _ hSw; go_simp <;> with_reducible rfl)
        try simp only [Act.put, List.setIfInBounds_toArray, List.set_cons_zero, List.set_cons_succ]
        refine wpAnyH_take (i := 31) (oi := { dst := some 131, op := _, type := _, pos := _, after := _, guard := _ }) (v := ?_) rfl (by kernel_rfl) (by kernel_rfl) (by kernel_rfl) (fun _ _ _ h => h) (Or.inl ⟨by rfl, ?_⟩) hHeld ?_
        rotate_left
        · (intro w hSw; obtain ⟨⟨b1, b2, b3, b4, b5⟩, _⟩ := HG7.out _ hSw; obtain ⟨⟨d1, d2, d3, d4, d5⟩, _⟩ := HG2.out _ hSw; obtain ⟨⟨f1, f2, f3, f4, f5⟩, _⟩ := HG5.out _ hSw; go_simp <;> with_reducible rfl)
        try simp only [Act.put, List.setIfInBounds_toArray, List.set_cons_zero, List.set_cons_succ]
        refine wpAnyH_ready (rs := [32]) (by kernel_rfl) (by simp) ?_
        refine AllReadyH.cons (o := { dst := some 132, op := _, type := _, pos := _, after := _, guard := _ }) rfl (fun K hK => ?_) AllReadyH.nil
        go_simp
        refine (lives22_any _).mono ?_
        rintro e v8 ⟨rfl, hk8⟩
        have hKeep := since_step hHeld hk8
        go_wp2_with fail
        refine hK.out _ _ (by (try dsimp only); exact hKeep) (fun hHeld => ?_)
        clear hK K hKeep
        try simp only [Act.put, List.setIfInBounds_toArray, List.set_cons_zero, List.set_cons_succ]
        refine wpAnyH_take (i := 33) (oi := { dst := some 133, op := _, type := _, pos := _, after := _, guard := _ }) (v := ?_) rfl (by kernel_rfl) (by kernel_rfl) (by kernel_rfl) (fun _ _ _ h => h) (Or.inl ⟨by rfl, ?_⟩) hHeld ?_
        rotate_left
        · (intro w hSw; obtain ⟨⟨b1, b2, b3, b4, b5⟩, _⟩ := HG7.out _ hSw; obtain ⟨⟨d1, d2, d3, d4, d5⟩, _⟩ := HG2.out _ hSw; obtain ⟨⟨f1, f2, f3, f4, f5⟩, _⟩ := HG5.out _ hSw; go_simp <;> with_reducible rfl)
        try simp only [Act.put, List.setIfInBounds_toArray, List.set_cons_zero, List.set_cons_succ]
        refine wpAnyH_take (i := 34) (oi := { dst := some 2, op := _, type := _, pos := _, after := _, guard := _ }) (v := ?_) rfl (by kernel_rfl) (by kernel_rfl) (by kernel_rfl) (fun _ _ _ h => h) (Or.inl ⟨by rfl, ?_⟩) hHeld ?_
        rotate_left
        · (intro w hSw; obtain ⟨⟨b1, b2, b3, b4, b5⟩, _⟩ := HG7.out _ hSw; obtain ⟨⟨d1, d2, d3, d4, d5⟩, _⟩ := HG2.out _ hSw; obtain ⟨⟨f1, f2, f3, f4, f5⟩, _⟩ := HG5.out _ hSw; go_simp <;> with_reducible rfl)
        try simp only [Act.put, List.setIfInBounds_toArray, List.set_cons_zero, List.set_cons_succ]
        refine wpAnyH_done (by kernel_rfl) ?_ _
        have hBf := hB11.trans (hHeld.mono hszW)
        go_wp2_with fail
        go_ret
        exact ⟨rfl, hBf⟩
end Go.Proofs.Ytpnaihnmmnjacaa
