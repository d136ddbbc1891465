/-
  Layer 22, second part: costs (laid by gen_block2.py).
-/
import Derived.Test.YtpnaihnmmnjacaaBlock
import Derived.Test.YtpnaihnmmnjacaaWide7
import Derived.Test.YtpnaihnmmnjacaaFix
namespace Go.Proofs.Ytpnaihnmmnjacaa
open Go.ChangeShapes Go.WideShapes Go.ChangeAt Go.RowKit
set_option linter.unusedVariables false
set_option linter.unusedSimpArgs false

def costL (l : List Fi) : Int := (l.map fun f => f.qty * f.pr).sum
def qtyL (l : List Fi) : Int := (l.map fun f => f.qty).sum
theorem costL_take (l : List Fi) (k : Nat) (h : k < l.length) : costL (l.take (k + 1)) = costL (l.take k) + l[k].qty * l[k].pr := by
  unfold costL; rw [take_snoc l k h, List.map_append, List.sum_append]; simp
theorem qtyL_take (l : List Fi) (k : Nat) (h : k < l.length) : qtyL (l.take (k + 1)) = qtyL (l.take k) + l[k].qty := by
  unfold qtyL; rw [take_snoc l k h, List.map_append, List.sum_append]; simp
theorem okF_bd {f : Fi} (h : okF f = true) : 0 ≤ f.pr ∧ f.pr ≤ 2147483647 ∧ f.qty ≠ 0 ∧ -1099511627776 ≤ f.qty ∧ f.qty ≤ 1099511627776 := by
  unfold okF inQ at h
  simp only [Bool.and_eq_true, decide_eq_true_eq, Bool.not_eq_true', beq_eq_false_iff_ne] at h
  exact ⟨h.1.1.1, h.1.1.2, h.1.2, h.2.1, h.2.2⟩
theorem prod_bd {q p : Int} (h1 : 0 ≤ p) (h2 : p ≤ 2147483647) (h3 : -1099511627776 ≤ q) (h4 : q ≤ 1099511627776) : -2361183241434822606848 ≤ q * p ∧ q * p ≤ 2361183241434822606848 := by
  have a1 : q * p ≤ 1099511627776 * p := Int.mul_le_mul_of_nonneg_right h4 h1
  have a2 : -1099511627776 * p ≤ q * p := Int.mul_le_mul_of_nonneg_right h3 h1
  omega
theorem costL_bd : ∀ (l : List Fi), (∀ f ∈ l, okF f = true) → -(l.length : Int) * 2361183241434822606848 ≤ costL l ∧ costL l ≤ (l.length : Int) * 2361183241434822606848
  | [], _ => by simp [costL]
  | f :: l, h => by
    have ih := costL_bd l (fun g hg => h g (List.mem_cons_of_mem _ hg))
    obtain ⟨h1, h2, _, h3, h4⟩ := okF_bd (h f List.mem_cons_self)
    have := prod_bd h1 h2 h3 h4
    have e : costL (f :: l) = f.qty * f.pr + costL l := by simp [costL]
    rw [e]
    simp only [List.length_cons]
    omega
theorem qtyL_bd : ∀ (l : List Fi), (∀ f ∈ l, okF f = true) → -(l.length : Int) * 1099511627776 ≤ qtyL l ∧ qtyL l ≤ (l.length : Int) * 1099511627776
  | [], _ => by simp [qtyL]
  | f :: l, h => by
    have ih := qtyL_bd l (fun g hg => h g (List.mem_cons_of_mem _ hg))
    obtain ⟨h1, h2, _, h3, h4⟩ := okF_bd (h f List.mem_cons_self)
    have e : qtyL (f :: l) = f.qty + qtyL l := by simp [qtyL]
    rw [e]
    simp only [List.length_cons]
    omega
theorem costL_in {l : List Fi} (h : ∀ f ∈ l, okF f = true) (hl : l.length ≤ 1000) : In128 (costL l) := by
  have := costL_bd l h
  unfold In128
  omega

set_option maxHeartbeats 8000000 in
set_option maxRecDepth 100000 in
theorem bcosts_any (A : Option Addr) (cap : Nat) (l : List Fi) (w : World) (hl : l.length ≤ 1000) (hx : ∀ f ∈ l, okF f = true) (hs : Sl w A (rc Fi.cells l)) :
    Calls Try.prog 123 #[.slice A l.length cap] w fun e w' => e = .returned (.tuple #[.agg #[.int .i64 (hiN (costL l)), .int .u64 (loN (costL l))], .int .i64 0]) ∧ Below w.heap.size w w' := by
  obtain ⟨z1, z2, z3⟩ := zero_parts
  go_enter Try.func123, Try.ntmps123
  go_wp2
  go_loopw [11] (fun i wr => ∃ k : Nat, k ≤ l.length ∧ i = .int .i64 k ∧ T2 wr (w.heap.size + 1) (hiN (costL (l.take k))) (loN (costL (l.take k))) ∧ T2 wr w.heap.size 0 0 ∧ Below w.heap.size w wr) (fun i _ => l.length - (intOf i).toNat)
  case atStart =>
    refine ⟨0, by omega, rfl, ?_, ?_, ((Below.refl _ _).alloc (Nat.le_refl _) _).alloc (by simp) _⟩
    · have e : costL (l.take 0) = 0 := rfl
      rw [e, z1, z2]
      have h := T2.new (w.alloc (.cells #[.int .i64 0, .int .u64 0] 62)) 0 0 62
      rwa [World.size_alloc] at h
    · exact (T2.new w 0 0 _).alloc _
  case round =>
    obtain ⟨k, hk, rfl, ht, ht2, hB⟩ := hrel
    by_cases hlt : k < l.length
    · obtain ⟨b, o, rfl, hbw, hg⟩ := hs.fi hlt
      have hg1 : l[k].at wr b (o + k * 2) := Fi.at_keep (w := w) hg fun i => hB.cell (p := ⟨b, i, none⟩) hbw
      have hsum := costL_take l k hlt
      have hok := okF_bd (hx _ (List.getElem_mem hlt))
      have h1 : In128 (costL (l.take k)) := costL_in (fun f h => hx f (List.mem_of_mem_take h)) (by simp; omega)
      have h2 : In128 (costL (l.take (k + 1))) := costL_in (fun f h => hx f (List.mem_of_mem_take h)) (by simp; omega)
      have hlk : (k : Int) < (l.length : Int) := by omega
      rw [hsum] at h2
      have HS := Lib.hid hsum
      clear hsum hg hs hx
      generalize l[k] = v at *
      obtain ⟨q, p⟩ := v
      simp only at hok h2 HS
      obtain ⟨p0, p1⟩ := hg1
      simp only at p0 p1
      obtain ⟨o1, o2, o3, o4, o5⟩ := hok
      have hmb := prod_bd o1 o2 o4 o5
      have HM := Lib.hid (fun W => wmul_any q p (by unfold In64; omega) (by unfold In64; omega) W)
      have hz : In128 (q * p) := by unfold In128; omega
      have HE := Lib.hid (wideE_yes h2)
      generalize costL (l.take k) = y at *
      generalize q * p = z at *
      have HA := Lib.hid (fun A W (h : Sl W A (wcells [y, z])) => wadd_any A 2 [y, z] W (by simp) (by intro x hx; simp at hx; rcases hx with rfl | rfl <;> assumption) h)
      rw [show [y, z].sum = y + z from by simp, HE.out] at HA
      have HA : Hid (∀ A W, Sl W A (wcells [y, z]) → Calls Try.prog 95 #[.slice A 2 2] W fun e w' => e = .returned (.tuple #[.agg #[.int .i64 (hiN (y + z)), .int .u64 (loN (y + z))], .int .i64 0]) ∧ Below W.heap.size W w') := HA
      clear hmb h1 h2 hz HE o1 o2 o3 o4 o5
      go_upto_region 5 with fail
      have hX := Fi.Bx.new wr ⟨q, p⟩
      have hW := (Below.refl wr.heap.size wr).alloc (Nat.le_refl _) (.cells (Fi.cells ⟨q, p⟩).toArray 117)
      have hBW := since_step hB hW
      have htW := ht.below hW
      have ht2W := ht2.below hW
      have hbl := hB.size
      unfold Fi.cells at hX hW hBW htW ht2W
      simp only at hX hW hBW htW ht2W
      clear p0 p1 ht ht2 hB
      generalize hWW : wr.alloc (.cells #[.int .i64 q, .int .i64 p] 117) = W at *
      have HX : Hid (∀ V, Below W.heap.size W V → Fi.Bx V wr.heap.size ⟨q, p⟩) := Lib.hid fun V hV => hX.below hV
      have HT : Hid (∀ V, Below W.heap.size W V → T2 V (w.heap.size + 1) (hiN y) (loN y)) := Lib.hid fun V hV => htW.below hV
      have HT2 : Hid (∀ V, Below W.heap.size W V → T2 V w.heap.size 0 0) := Lib.hid fun V hV => ht2W.below hV
      have htl := htW.1
      have hsW : w.heap.size ≤ W.heap.size := hBW.size
      clear hX htW ht2W hW hWW
      go_wp2_with fail
      refine wp_region_held_drew (S := (fun V => Below W.heap.size W V)) (by kernel_rfl) (by exact (Below.refl _ _).drew) (fun hHeld => ?_)
      refine wpAnyH_take (i := 0) (oi := { dst := some 16, op := _, type := _, pos := _, after := _, guard := _ }) (v := ?_) rfl (by kernel_rfl) (by kernel_rfl) (by kernel_rfl) (fun _ _ _ h => h) (Or.inl ⟨by rfl, ?_⟩) hHeld ?_
      rotate_left
      · (intro w hSw; obtain ⟨x0, x1⟩ := (HX.out _ hSw).got; obtain ⟨t0, t1, t2, t3, t4⟩ := HT.out _ hSw; go_simp <;> with_reducible rfl)
      try simp only [Act.put, List.setIfInBounds_toArray, List.set_cons_zero, List.set_cons_succ]
      refine wpAnyH_take (i := 1) (oi := { dst := some 17, op := _, type := _, pos := _, after := _, guard := _ }) (v := ?_) rfl (by kernel_rfl) (by kernel_rfl) (by kernel_rfl) (fun _ _ _ h => h) (Or.inl ⟨by rfl, ?_⟩) hHeld ?_
      rotate_left
      · (intro w hSw; obtain ⟨x0, x1⟩ := (HX.out _ hSw).got; obtain ⟨t0, t1, t2, t3, t4⟩ := HT.out _ hSw; go_simp <;> with_reducible rfl)
      try simp only [Act.put, List.setIfInBounds_toArray, List.set_cons_zero, List.set_cons_succ]
      refine wpAnyH_take (i := 2) (oi := { dst := some 18, op := _, type := _, pos := _, after := _, guard := _ }) (v := ?_) rfl (by kernel_rfl) (by kernel_rfl) (by kernel_rfl) (fun _ _ _ h => h) (Or.inl ⟨by rfl, ?_⟩) hHeld ?_
      rotate_left
      · (intro w hSw; obtain ⟨x0, x1⟩ := (HX.out _ hSw).got; obtain ⟨t0, t1, t2, t3, t4⟩ := HT.out _ hSw; go_simp <;> with_reducible rfl)
      try simp only [Act.put, List.setIfInBounds_toArray, List.set_cons_zero, List.set_cons_succ]
      refine wpAnyH_take (i := 3) (oi := { dst := some 19, op := _, type := _, pos := _, after := _, guard := _ }) (v := ?_) rfl (by kernel_rfl) (by kernel_rfl) (by kernel_rfl) (fun _ _ _ h => h) (Or.inl ⟨by rfl, ?_⟩) hHeld ?_
      rotate_left
      · (intro w hSw; obtain ⟨x0, x1⟩ := (HX.out _ hSw).got; obtain ⟨t0, t1, t2, t3, t4⟩ := HT.out _ hSw; go_simp <;> with_reducible rfl)
      try simp only [Act.put, List.setIfInBounds_toArray, List.set_cons_zero, List.set_cons_succ]
      refine wpAnyH_take (i := 4) (oi := { dst := some 20, op := _, type := _, pos := _, after := _, guard := _ }) (v := ?_) rfl (by kernel_rfl) (by kernel_rfl) (by kernel_rfl) (fun _ _ _ h => h) (Or.inl ⟨by rfl, ?_⟩) hHeld ?_
      rotate_left
      · (intro w hSw; obtain ⟨x0, x1⟩ := (HX.out _ hSw).got; obtain ⟨t0, t1, t2, t3, t4⟩ := HT.out _ hSw; go_simp <;> with_reducible rfl)
      try simp only [Act.put, List.setIfInBounds_toArray, List.set_cons_zero, List.set_cons_succ]
      refine wpAnyH_ready (rs := [5, 11]) (by kernel_rfl) (by simp) ?_
      refine AllReadyH.cons (o := { dst := some 21, op := _, type := _, pos := _, after := _, guard := _ }) rfl (fun K hK => ?_) (AllReadyH.cons (o := { dst := some 7, op := _, type := _, pos := _, after := _, guard := _ }) rfl (fun K hK => ?_) AllReadyH.nil)
      · go_simp
        refine (HM.out _).mono ?_
        rintro e u1 ⟨rfl, hk1⟩
        have hKeep := since_step hHeld hk1
        go_wp2_with fail
        refine hK.out _ _ (by (try dsimp only); exact hKeep) (fun hHeld => ?_)
        clear hK K hKeep
        try simp only [Act.put, List.setIfInBounds_toArray, List.set_cons_zero, List.set_cons_succ]
        refine wpAnyH_ready (rs := [6, 11]) (by kernel_rfl) (by simp) ?_
        refine AllReadyH.cons (o := { dst := some 22, op := _, type := _, pos := _, after := _, guard := _ }) rfl (fun K hK => ?_) (AllReadyH.cons (o := { dst := some 7, op := _, type := _, pos := _, after := _, guard := _ }) rfl (fun K hK => ?_) AllReadyH.nil)
        · have hHd := hHeld
          obtain ⟨x0, x1⟩ := (HX.out _ hHd).got; obtain ⟨t0, t1, t2, t3, t4⟩ := HT.out _ hHd
          have hKeep := since_alloc hHeld (.cells #[.int .i64 (hiN y), .int .u64 (loN y), .int .i64 (hiN z), .int .u64 (loN z)] 62)
          have HP : Sl (u1.alloc (.cells #[.int .i64 (hiN y), .int .u64 (loN y), .int .i64 (hiN z), .int .u64 (loN z)] 62)) (some ⟨u1.heap.size, 0, none⟩) (wcells [y, z]) := Sl.new_ _ (wcells [y, z]) _
          go_simp
          refine hK.out _ _ (by (try dsimp only); exact hKeep) (fun hHeld => ?_)
          clear hK K hKeep
          try simp only [Act.put, List.setIfInBounds_toArray, List.set_cons_zero, List.set_cons_succ]
          refine wpAnyH_ready (rs := [7, 11]) (by kernel_rfl) (by simp) ?_
          refine AllReadyH.cons (o := { dst := some 23, op := _, type := _, pos := _, after := _, guard := _ }) rfl (fun K hK => ?_) (AllReadyH.cons (o := { dst := some 7, op := _, type := _, pos := _, after := _, guard := _ }) rfl (fun K hK => ?_) AllReadyH.nil)
          · go_simp
            refine (HA.out _ _ HP).mono ?_
            rintro e u2 ⟨rfl, hk2⟩
            have hKeep := since_step hHeld hk2
            go_wp2_with fail
            refine hK.out _ _ (by (try dsimp only); exact hKeep) (fun hHeld => ?_)
            clear hK K hKeep
            try simp only [Act.put, List.setIfInBounds_toArray, List.set_cons_zero, List.set_cons_succ]
            refine wpAnyH_take (i := 8) (oi := { dst := some 15, op := _, type := _, pos := _, after := _, guard := _ }) (v := ?_) rfl (by kernel_rfl) (by kernel_rfl) (by kernel_rfl) (fun _ _ _ h => h) (Or.inl ⟨by rfl, ?_⟩) hHeld ?_
            rotate_left
            · (intro w hSw; obtain ⟨x0, x1⟩ := (HX.out _ hSw).got; obtain ⟨t0, t1, t2, t3, t4⟩ := HT.out _ hSw; go_simp <;> with_reducible rfl)
            try simp only [Act.put, List.setIfInBounds_toArray, List.set_cons_zero, List.set_cons_succ]
            refine wpAnyH_take (i := 9) (oi := { dst := some 24, op := _, type := _, pos := _, after := _, guard := _ }) (v := ?_) rfl (by kernel_rfl) (by kernel_rfl) (by kernel_rfl) (fun _ _ _ h => h) (Or.inl ⟨by rfl, ?_⟩) hHeld ?_
            rotate_left
            · (intro w hSw; obtain ⟨x0, x1⟩ := (HX.out _ hSw).got; obtain ⟨t0, t1, t2, t3, t4⟩ := HT.out _ hSw; go_simp <;> with_reducible rfl)
            try simp only [Act.put, List.setIfInBounds_toArray, List.set_cons_zero, List.set_cons_succ]
            refine wpAnyH_take (i := 10) (oi := { dst := some 25, op := _, type := _, pos := _, after := _, guard := _ }) (v := ?_) rfl (by kernel_rfl) (by kernel_rfl) (by kernel_rfl) (fun _ _ _ h => h) (Or.inl ⟨by rfl, ?_⟩) hHeld ?_
            rotate_left
            · (intro w hSw; obtain ⟨x0, x1⟩ := (HX.out _ hSw).got; obtain ⟨t0, t1, t2, t3, t4⟩ := HT.out _ hSw; go_simp <;> with_reducible rfl)
            try simp only [Act.put, List.setIfInBounds_toArray, List.set_cons_zero, List.set_cons_succ]
            refine wpAnyH_ready (rs := [11]) (by kernel_rfl) (by simp) ?_
            refine AllReadyH.cons (o := { dst := some 7, op := _, type := _, pos := _, after := _, guard := _ }) rfl (fun K hK => ?_) AllReadyH.nil
            have hHd := hHeld
            obtain ⟨x0, x1⟩ := (HX.out _ hHd).got; obtain ⟨t0, t1, t2, t3, t4⟩ := HT.out _ hHd
            have hKeep := since_alloc hHeld (.cells #[.int .i64 0, .int .u64 0] 62)
            have hHp := hHeld
            have G := T2.new u2 0 0 62
            have hgs : W.heap.size ≤ u2.heap.size := by have h := hHeld.size; (try simp only [World.size_alloc, World.size_drew] at h ⊢); omega
            have HP := HP.alloc (.cells #[.int .i64 0, .int .u64 0] 62)
            go_simp
            refine hK.out _ _ (by (try dsimp only); exact hKeep) (fun hHeld => ?_)
            clear hK K hKeep
            try simp only [Act.put, List.setIfInBounds_toArray, List.set_cons_zero, List.set_cons_succ]
            refine wpAnyH_ready (rs := [12]) (by kernel_rfl) (by simp) ?_
            refine AllReadyH.cons (o := { dst := none, op := _, type := _, pos := _, after := _, guard := _ }) rfl (fun K hK => ?_) AllReadyH.nil
            have hHd := hHeld
            obtain ⟨x0, x1⟩ := (HX.out _ hHd).got; obtain ⟨t0, t1, t2, t3, t4⟩ := HT.out _ hHd
            have G9 := T2.new u2 (hiN (y + z)) (loN (y + z)) 62
            obtain ⟨g0, g1, g2, g3, g4⟩ := id G
            have hKeep := since_alloc hHp (.cells #[.int .i64 (hiN (y + z)), .int .u64 (loN (y + z))] 62)
            skip
            go_simp
            refine hK.out _ _ (by (try dsimp only); exact hKeep) (fun hHeld => ?_)
            clear hK K hKeep
            try simp only [Act.put, List.setIfInBounds_toArray, List.set_cons_zero, List.set_cons_succ]
            refine wpAnyH_take (i := 13) (oi := { dst := some 8, op := _, type := _, pos := _, after := _, guard := _ }) (v := ?_) rfl (by kernel_rfl) (by kernel_rfl) (by kernel_rfl) (fun _ _ _ h => h) (Or.inl ⟨by rfl, ?_⟩) hHeld ?_
            rotate_left
            · (intro w hSw; obtain ⟨x0, x1⟩ := (HX.out _ hSw).got; obtain ⟨t0, t1, t2, t3, t4⟩ := HT.out _ hSw; go_simp <;> with_reducible rfl)
            try simp only [Act.put, List.setIfInBounds_toArray, List.set_cons_zero, List.set_cons_succ]
            refine wpAnyH_done (by kernel_rfl) ?_ _
            clear hHp
            generalize hFW : (u2.alloc (.cells #[.int .i64 (hiN (y + z)), .int .u64 (loN (y + z))] 62)) = FW at *
            have hTf := HT.out _ hHeld
            have hT2f := HT2.out _ hHeld
            have hBf := hBW.trans (hHeld.mono hsW)
            obtain ⟨g0, g1, g2, g3, g4⟩ := id G9
            obtain ⟨t0, t1, t2, t3, t4⟩ := id hTf
            have hgne := hgs
            go_wp2_with fail
            go_roundw
            case rel =>
              refine ⟨k + 1, by omega, by go_num, ?_, ?_, ?_⟩
              · rw [HS.out]
                exact hTf.set2 _ _
              · exact (hT2f.far (by simp) _).far (by simp) _
              · refine Below.setCell (Below.setCell hBf ?_ _) ?_ _ <;> simp
            case measure => simp [intOf]; omega
          · have hHd := hHeld
            obtain ⟨x0, x1⟩ := (HX.out _ hHd).got; obtain ⟨t0, t1, t2, t3, t4⟩ := HT.out _ hHd
            have hKeep := since_alloc hHeld (.cells #[.int .i64 0, .int .u64 0] 62)
            have hHp := hHeld
            have G := T2.new (u1.alloc (.cells #[.int .i64 (hiN y), .int .u64 (loN y), .int .i64 (hiN z), .int .u64 (loN z)] 62)) 0 0 62
            rw [World.size_alloc] at G
            have hgs : W.heap.size ≤ u1.heap.size + 1 := by have h := hHeld.size; (try simp only [World.size_alloc, World.size_drew] at h ⊢); omega
            have HP := HP.alloc (.cells #[.int .i64 0, .int .u64 0] 62)
            go_simp
            refine hK.out _ _ (by (try dsimp only); exact hKeep) (fun hHeld => ?_)
            clear hK K hKeep
            try simp only [Act.put, List.setIfInBounds_toArray, List.set_cons_zero, List.set_cons_succ]
            refine wpAnyH_ready (rs := [7]) (by kernel_rfl) (by simp) ?_
            refine AllReadyH.cons (o := { dst := some 23, op := _, type := _, pos := _, after := _, guard := _ }) rfl (fun K hK => ?_) AllReadyH.nil
            go_simp
            refine (HA.out _ _ HP).mono ?_
            rintro e u2 ⟨rfl, hk2⟩
            have hKeep := since_step hHeld hk2
            have G := G.below hk2
            go_wp2_with fail
            refine hK.out _ _ (by (try dsimp only); exact hKeep) (fun hHeld => ?_)
            clear hK K hKeep
            try simp only [Act.put, List.setIfInBounds_toArray, List.set_cons_zero, List.set_cons_succ]
            refine wpAnyH_take (i := 8) (oi := { dst := some 15, op := _, type := _, pos := _, after := _, guard := _ }) (v := ?_) rfl (by kernel_rfl) (by kernel_rfl) (by kernel_rfl) (fun _ _ _ h => h) (Or.inl ⟨by rfl, ?_⟩) hHeld ?_
            rotate_left
            · (intro w hSw; obtain ⟨x0, x1⟩ := (HX.out _ hSw).got; obtain ⟨t0, t1, t2, t3, t4⟩ := HT.out _ hSw; go_simp <;> with_reducible rfl)
            try simp only [Act.put, List.setIfInBounds_toArray, List.set_cons_zero, List.set_cons_succ]
            refine wpAnyH_take (i := 9) (oi := { dst := some 24, op := _, type := _, pos := _, after := _, guard := _ }) (v := ?_) rfl (by kernel_rfl) (by kernel_rfl) (by kernel_rfl) (fun _ _ _ h => h) (Or.inl ⟨by rfl, ?_⟩) hHeld ?_
            rotate_left
            · (intro w hSw; obtain ⟨x0, x1⟩ := (HX.out _ hSw).got; obtain ⟨t0, t1, t2, t3, t4⟩ := HT.out _ hSw; go_simp <;> with_reducible rfl)
            try simp only [Act.put, List.setIfInBounds_toArray, List.set_cons_zero, List.set_cons_succ]
            refine wpAnyH_take (i := 10) (oi := { dst := some 25, op := _, type := _, pos := _, after := _, guard := _ }) (v := ?_) rfl (by kernel_rfl) (by kernel_rfl) (by kernel_rfl) (fun _ _ _ h => h) (Or.inl ⟨by rfl, ?_⟩) hHeld ?_
            rotate_left
            · (intro w hSw; obtain ⟨x0, x1⟩ := (HX.out _ hSw).got; obtain ⟨t0, t1, t2, t3, t4⟩ := HT.out _ hSw; go_simp <;> with_reducible rfl)
            try simp only [Act.put, List.setIfInBounds_toArray, List.set_cons_zero, List.set_cons_succ]
            refine wpAnyH_ready (rs := [12]) (by kernel_rfl) (by simp) ?_
            refine AllReadyH.cons (o := { dst := none, op := _, type := _, pos := _, after := _, guard := _ }) rfl (fun K hK => ?_) AllReadyH.nil
            have hHd := hHeld
            obtain ⟨x0, x1⟩ := (HX.out _ hHd).got; obtain ⟨t0, t1, t2, t3, t4⟩ := HT.out _ hHd
            have G9 := G.set2 (hiN (y + z)) (loN (y + z))
            obtain ⟨g0, g1, g2, g3, g4⟩ := id G
            have hKeep := Below.setCell (Below.setCell hHeld (p := ⟨u1.heap.size + 1, 0, none⟩) hgs (.int .i64 (hiN (y + z)))) (p := ⟨u1.heap.size + 1, 1, none⟩) hgs (.int .u64 (loN (y + z)))
            skip
            go_simp
            refine hK.out _ _ (by (try dsimp only); exact hKeep) (fun hHeld => ?_)
            clear hK K hKeep
            try simp only [Act.put, List.setIfInBounds_toArray, List.set_cons_zero, List.set_cons_succ]
            refine wpAnyH_take (i := 13) (oi := { dst := some 8, op := _, type := _, pos := _, after := _, guard := _ }) (v := ?_) rfl (by kernel_rfl) (by kernel_rfl) (by kernel_rfl) (fun _ _ _ h => h) (Or.inl ⟨by rfl, ?_⟩) hHeld ?_
            rotate_left
            · (intro w hSw; obtain ⟨x0, x1⟩ := (HX.out _ hSw).got; obtain ⟨t0, t1, t2, t3, t4⟩ := HT.out _ hSw; go_simp <;> with_reducible rfl)
            try simp only [Act.put, List.setIfInBounds_toArray, List.set_cons_zero, List.set_cons_succ]
            refine wpAnyH_done (by kernel_rfl) ?_ _
            clear hHp
            generalize hFW : ((u2.setCell ⟨u1.heap.size + 1, 0, none⟩ (.int .i64 (hiN (y + z)))).setCell ⟨u1.heap.size + 1, 1, none⟩ (.int .u64 (loN (y + z)))) = FW at *
            have hTf := HT.out _ hHeld
            have hT2f := HT2.out _ hHeld
            have hBf := hBW.trans (hHeld.mono hsW)
            obtain ⟨g0, g1, g2, g3, g4⟩ := id G9
            obtain ⟨t0, t1, t2, t3, t4⟩ := id hTf
            have hgne := hgs
            go_wp2_with fail
            go_roundw
            case rel =>
              refine ⟨k + 1, by omega, by go_num, ?_, ?_, ?_⟩
              · rw [HS.out]
                exact hTf.set2 _ _
              · exact (hT2f.far (by simp) _).far (by simp) _
              · refine Below.setCell (Below.setCell hBf ?_ _) ?_ _ <;> simp
            case measure => simp [intOf]; omega
        · have hHd := hHeld
          obtain ⟨x0, x1⟩ := (HX.out _ hHd).got; obtain ⟨t0, t1, t2, t3, t4⟩ := HT.out _ hHd
          have hKeep := since_alloc hHeld (.cells #[.int .i64 0, .int .u64 0] 62)
          have hHp := hHeld
          have G := T2.new u1 0 0 62
          have hgs : W.heap.size ≤ u1.heap.size := by have h := hHeld.size; (try simp only [World.size_alloc, World.size_drew] at h ⊢); omega
          go_simp
          refine hK.out _ _ (by (try dsimp only); exact hKeep) (fun hHeld => ?_)
          clear hK K hKeep
          try simp only [Act.put, List.setIfInBounds_toArray, List.set_cons_zero, List.set_cons_succ]
          refine wpAnyH_ready (rs := [6]) (by kernel_rfl) (by simp) ?_
          refine AllReadyH.cons (o := { dst := some 22, op := _, type := _, pos := _, after := _, guard := _ }) rfl (fun K hK => ?_) AllReadyH.nil
          have hHd := hHeld
          obtain ⟨x0, x1⟩ := (HX.out _ hHd).got; obtain ⟨t0, t1, t2, t3, t4⟩ := HT.out _ hHd
          have hKeep := since_alloc hHeld (.cells #[.int .i64 (hiN y), .int .u64 (loN y), .int .i64 (hiN z), .int .u64 (loN z)] 62)
          have HP : Sl ((u1.alloc (.cells #[.int .i64 0, .int .u64 0] 62)).alloc (.cells #[.int .i64 (hiN y), .int .u64 (loN y), .int .i64 (hiN z), .int .u64 (loN z)] 62)) (some ⟨u1.heap.size + 1, 0, none⟩) (wcells [y, z]) := Sl.new1 _ _ (wcells [y, z]) _
          have G := G.alloc (.cells #[.int .i64 (hiN y), .int .u64 (loN y), .int .i64 (hiN z), .int .u64 (loN z)] 62)
          go_simp
          refine hK.out _ _ (by (try dsimp only); exact hKeep) (fun hHeld => ?_)
          clear hK K hKeep
          try simp only [Act.put, List.setIfInBounds_toArray, List.set_cons_zero, List.set_cons_succ]
          refine wpAnyH_ready (rs := [7]) (by kernel_rfl) (by simp) ?_
          refine AllReadyH.cons (o := { dst := some 23, op := _, type := _, pos := _, after := _, guard := _ }) rfl (fun K hK => ?_) AllReadyH.nil
          go_simp
          refine (HA.out _ _ HP).mono ?_
          rintro e u2 ⟨rfl, hk2⟩
          have hKeep := since_step hHeld hk2
          have G := G.below hk2
          go_wp2_with fail
          refine hK.out _ _ (by (try dsimp only); exact hKeep) (fun hHeld => ?_)
          clear hK K hKeep
          try simp only [Act.put, List.setIfInBounds_toArray, List.set_cons_zero, List.set_cons_succ]
          refine wpAnyH_take (i := 8) (oi := { dst := some 15, op := _, type := _, pos := _, after := _, guard := _ }) (v := ?_) rfl (by kernel_rfl) (by kernel_rfl) (by kernel_rfl) (fun _ _ _ h => h) (Or.inl ⟨by rfl, ?_⟩) hHeld ?_
          rotate_left
          · (intro w hSw; obtain ⟨x0, x1⟩ := (HX.out _ hSw).got; obtain ⟨t0, t1, t2, t3, t4⟩ := HT.out _ hSw; go_simp <;> with_reducible rfl)
          try simp only [Act.put, List.setIfInBounds_toArray, List.set_cons_zero, List.set_cons_succ]
          refine wpAnyH_take (i := 9) (oi := { dst := some 24, op := _, type := _, pos := _, after := _, guard := _ }) (v := ?_) rfl (by kernel_rfl) (by kernel_rfl) (by kernel_rfl) (fun _ _ _ h => h) (Or.inl ⟨by rfl, ?_⟩) hHeld ?_
          rotate_left
          · (intro w hSw; obtain ⟨x0, x1⟩ := (HX.out _ hSw).got; obtain ⟨t0, t1, t2, t3, t4⟩ := HT.out _ hSw; go_simp <;> with_reducible rfl)
          try simp only [Act.put, List.setIfInBounds_toArray, List.set_cons_zero, List.set_cons_succ]
          refine wpAnyH_take (i := 10) (oi := { dst := some 25, op := _, type := _, pos := _, after := _, guard := _ }) (v := ?_) rfl (by kernel_rfl) (by kernel_rfl) (by kernel_rfl) (fun _ _ _ h => h) (Or.inl ⟨by rfl, ?_⟩) hHeld ?_
          rotate_left
          · (intro w hSw; obtain ⟨x0, x1⟩ := (HX.out _ hSw).got; obtain ⟨t0, t1, t2, t3, t4⟩ := HT.out _ hSw; go_simp <;> with_reducible rfl)
          try simp only [Act.put, List.setIfInBounds_toArray, List.set_cons_zero, List.set_cons_succ]
          refine wpAnyH_ready (rs := [12]) (by kernel_rfl) (by simp) ?_
          refine AllReadyH.cons (o := { dst := none, op := _, type := _, pos := _, after := _, guard := _ }) rfl (fun K hK => ?_) AllReadyH.nil
          have hHd := hHeld
          obtain ⟨x0, x1⟩ := (HX.out _ hHd).got; obtain ⟨t0, t1, t2, t3, t4⟩ := HT.out _ hHd
          have G9 := G.set2 (hiN (y + z)) (loN (y + z))
          obtain ⟨g0, g1, g2, g3, g4⟩ := id G
          have hKeep := Below.setCell (Below.setCell hHeld (p := ⟨u1.heap.size, 0, none⟩) hgs (.int .i64 (hiN (y + z)))) (p := ⟨u1.heap.size, 1, none⟩) hgs (.int .u64 (loN (y + z)))
          skip
          go_simp
          refine hK.out _ _ (by (try dsimp only); exact hKeep) (fun hHeld => ?_)
          clear hK K hKeep
          try simp only [Act.put, List.setIfInBounds_toArray, List.set_cons_zero, List.set_cons_succ]
          refine wpAnyH_take (i := 13) (oi := { dst := some 8, op := _, type := _, pos := _, after := _, guard := _ }) (v := ?_) rfl (by kernel_rfl) (by kernel_rfl) (by kernel_rfl) (fun _ _ _ h => h) (Or.inl ⟨by rfl, ?_⟩) hHeld ?_
          rotate_left
          · (intro w hSw; obtain ⟨x0, x1⟩ := (HX.out _ hSw).got; obtain ⟨t0, t1, t2, t3, t4⟩ := HT.out _ hSw; go_simp <;> with_reducible rfl)
          try simp only [Act.put, List.setIfInBounds_toArray, List.set_cons_zero, List.set_cons_succ]
          refine wpAnyH_done (by kernel_rfl) ?_ _
          clear hHp
          generalize hFW : ((u2.setCell ⟨u1.heap.size, 0, none⟩ (.int .i64 (hiN (y + z)))).setCell ⟨u1.heap.size, 1, none⟩ (.int .u64 (loN (y + z)))) = FW at *
          have hTf := HT.out _ hHeld
          have hT2f := HT2.out _ hHeld
          have hBf := hBW.trans (hHeld.mono hsW)
          obtain ⟨g0, g1, g2, g3, g4⟩ := id G9
          obtain ⟨t0, t1, t2, t3, t4⟩ := id hTf
          have hgne := hgs
          go_wp2_with fail
          go_roundw
          case rel =>
            refine ⟨k + 1, by omega, by go_num, ?_, ?_, ?_⟩
            · rw [HS.out]
              exact hTf.set2 _ _
            · exact (hT2f.far (by simp) _).far (by simp) _
            · refine Below.setCell (Below.setCell hBf ?_ _) ?_ _ <;> simp
          case measure => simp [intOf]; omega
      · have hHd := hHeld
        obtain ⟨x0, x1⟩ := (HX.out _ hHd).got; obtain ⟨t0, t1, t2, t3, t4⟩ := HT.out _ hHd
        have hKeep := since_alloc hHeld (.cells #[.int .i64 0, .int .u64 0] 62)
        have hHp := hHeld
        have G := T2.new W.drew 0 0 62
        rw [World.size_drew] at G
        have hgs : W.heap.size ≤ W.heap.size := by have h := hHeld.size; (try simp only [World.size_alloc, World.size_drew] at h ⊢); omega
        go_simp
        refine hK.out _ _ (by (try dsimp only); exact hKeep) (fun hHeld => ?_)
        clear hK K hKeep
        try simp only [Act.put, List.setIfInBounds_toArray, List.set_cons_zero, List.set_cons_succ]
        refine wpAnyH_ready (rs := [5]) (by kernel_rfl) (by simp) ?_
        refine AllReadyH.cons (o := { dst := some 21, op := _, type := _, pos := _, after := _, guard := _ }) rfl (fun K hK => ?_) AllReadyH.nil
        go_simp
        refine (HM.out _).mono ?_
        rintro e u1 ⟨rfl, hk1⟩
        have hKeep := since_step hHeld hk1
        have G := G.below hk1
        go_wp2_with fail
        refine hK.out _ _ (by (try dsimp only); exact hKeep) (fun hHeld => ?_)
        clear hK K hKeep
        try simp only [Act.put, List.setIfInBounds_toArray, List.set_cons_zero, List.set_cons_succ]
        refine wpAnyH_ready (rs := [6]) (by kernel_rfl) (by simp) ?_
        refine AllReadyH.cons (o := { dst := some 22, op := _, type := _, pos := _, after := _, guard := _ }) rfl (fun K hK => ?_) AllReadyH.nil
        have hHd := hHeld
        obtain ⟨x0, x1⟩ := (HX.out _ hHd).got; obtain ⟨t0, t1, t2, t3, t4⟩ := HT.out _ hHd
        have hKeep := since_alloc hHeld (.cells #[.int .i64 (hiN y), .int .u64 (loN y), .int .i64 (hiN z), .int .u64 (loN z)] 62)
        have HP : Sl (u1.alloc (.cells #[.int .i64 (hiN y), .int .u64 (loN y), .int .i64 (hiN z), .int .u64 (loN z)] 62)) (some ⟨u1.heap.size, 0, none⟩) (wcells [y, z]) := Sl.new_ _ (wcells [y, z]) _
        have G := G.alloc (.cells #[.int .i64 (hiN y), .int .u64 (loN y), .int .i64 (hiN z), .int .u64 (loN z)] 62)
        go_simp
        refine hK.out _ _ (by (try dsimp only); exact hKeep) (fun hHeld => ?_)
        clear hK K hKeep
        try simp only [Act.put, List.setIfInBounds_toArray, List.set_cons_zero, List.set_cons_succ]
        refine wpAnyH_ready (rs := [7]) (by kernel_rfl) (by simp) ?_
        refine AllReadyH.cons (o := { dst := some 23, op := _, type := _, pos := _, after := _, guard := _ }) rfl (fun K hK => ?_) AllReadyH.nil
        go_simp
        refine (HA.out _ _ HP).mono ?_
        rintro e u2 ⟨rfl, hk2⟩
        have hKeep := since_step hHeld hk2
        have G := G.below hk2
        go_wp2_with fail
        refine hK.out _ _ (by (try dsimp only); exact hKeep) (fun hHeld => ?_)
        clear hK K hKeep
        try simp only [Act.put, List.setIfInBounds_toArray, List.set_cons_zero, List.set_cons_succ]
        refine wpAnyH_take (i := 8) (oi := { dst := some 15, op := _, type := _, pos := _, after := _, guard := _ }) (v := ?_) rfl (by kernel_rfl) (by kernel_rfl) (by kernel_rfl) (fun _ _ _ h => h) (Or.inl ⟨by rfl, ?_⟩) hHeld ?_
        rotate_left
        · (intro w hSw; obtain ⟨x0, x1⟩ := (HX.out _ hSw).got; obtain ⟨t0, t1, t2, t3, t4⟩ := HT.out _ hSw; go_simp <;> with_reducible rfl)
        try simp only [Act.put, List.setIfInBounds_toArray, List.set_cons_zero, List.set_cons_succ]
        refine wpAnyH_take (i := 9) (oi := { dst := some 24, op := _, type := _, pos := _, after := _, guard := _ }) (v := ?_) rfl (by kernel_rfl) (by kernel_rfl) (by kernel_rfl) (fun _ _ _ h => h) (Or.inl ⟨by rfl, ?_⟩) hHeld ?_
        rotate_left
        · (intro w hSw; obtain ⟨x0, x1⟩ := (HX.out _ hSw).got; obtain ⟨t0, t1, t2, t3, t4⟩ := HT.out _ hSw; go_simp <;> with_reducible rfl)
        try simp only [Act.put, List.setIfInBounds_toArray, List.set_cons_zero, List.set_cons_succ]
        refine wpAnyH_take (i := 10) (oi := { dst := some 25, op := _, type := _, pos := _, after := _, guard := _ }) (v := ?_) rfl (by kernel_rfl) (by kernel_rfl) (by kernel_rfl) (fun _ _ _ h => h) (Or.inl ⟨by rfl, ?_⟩) hHeld ?_
        rotate_left
        · (intro w hSw; obtain ⟨x0, x1⟩ := (HX.out _ hSw).got; obtain ⟨t0, t1, t2, t3, t4⟩ := HT.out _ hSw; go_simp <;> with_reducible rfl)
        try simp only [Act.put, List.setIfInBounds_toArray, List.set_cons_zero, List.set_cons_succ]
        refine wpAnyH_ready (rs := [12]) (by kernel_rfl) (by simp) ?_
        refine AllReadyH.cons (o := { dst := none, op := _, type := _, pos := _, after := _, guard := _ }) rfl (fun K hK => ?_) AllReadyH.nil
        have hHd := hHeld
        obtain ⟨x0, x1⟩ := (HX.out _ hHd).got; obtain ⟨t0, t1, t2, t3, t4⟩ := HT.out _ hHd
        have G9 := G.set2 (hiN (y + z)) (loN (y + z))
        obtain ⟨g0, g1, g2, g3, g4⟩ := id G
        have hKeep := Below.setCell (Below.setCell hHeld (p := ⟨W.heap.size, 0, none⟩) hgs (.int .i64 (hiN (y + z)))) (p := ⟨W.heap.size, 1, none⟩) hgs (.int .u64 (loN (y + z)))
        skip
        go_simp
        refine hK.out _ _ (by (try dsimp only); exact hKeep) (fun hHeld => ?_)
        clear hK K hKeep
        try simp only [Act.put, List.setIfInBounds_toArray, List.set_cons_zero, List.set_cons_succ]
        refine wpAnyH_take (i := 13) (oi := { dst := some 8, op := _, type := _, pos := _, after := _, guard := _ }) (v := ?_) rfl (by kernel_rfl) (by kernel_rfl) (by kernel_rfl) (fun _ _ _ h => h) (Or.inl ⟨by rfl, ?_⟩) hHeld ?_
        rotate_left
        · (intro w hSw; obtain ⟨x0, x1⟩ := (HX.out _ hSw).got; obtain ⟨t0, t1, t2, t3, t4⟩ := HT.out _ hSw; go_simp <;> with_reducible rfl)
        try simp only [Act.put, List.setIfInBounds_toArray, List.set_cons_zero, List.set_cons_succ]
        refine wpAnyH_done (by kernel_rfl) ?_ _
        clear hHp
        generalize hFW : ((u2.setCell ⟨W.heap.size, 0, none⟩ (.int .i64 (hiN (y + z)))).setCell ⟨W.heap.size, 1, none⟩ (.int .u64 (loN (y + z)))) = FW at *
        have hTf := HT.out _ hHeld
        have hT2f := HT2.out _ hHeld
        have hBf := hBW.trans (hHeld.mono hsW)
        obtain ⟨g0, g1, g2, g3, g4⟩ := id G9
        obtain ⟨t0, t1, t2, t3, t4⟩ := id hTf
        have hgne := hgs
        go_wp2_with fail
        go_roundw
        case rel =>
          refine ⟨k + 1, by omega, by go_num, ?_, ?_, ?_⟩
          · rw [HS.out]
            exact hTf.set2 _ _
          · exact (hT2f.far (by simp) _).far (by simp) _
          · refine Below.setCell (Below.setCell hBf ?_ _) ?_ _ <;> simp
        case measure => simp [intOf]; omega
    · obtain rfl : k = l.length := by omega
      rw [List.take_length] at ht
      obtain ⟨a0, a1, a2, f1, f2⟩ := id ht
      obtain ⟨b0, b1, b2, d1, d2⟩ := id ht2
      have hcs := @cell_set
      clear hs hx
      go_wp2
      refine bodyPost_ret (v := .tuple #[.agg #[.int .i64 (hiN (costL l)), .int .u64 (loN (costL l))], .int .i64 0]) ?_ rfl ?_
      · simp [results, Try.results123, go_sem, cell_set, b1, b2]
      · refine ⟨rfl, ?_⟩
        repeat' (first | with_reducible exact hB | with_reducible refine Below.setCell ?_ ?_ _)
        all_goals simp
end Go.Proofs.Ytpnaihnmmnjacaa
