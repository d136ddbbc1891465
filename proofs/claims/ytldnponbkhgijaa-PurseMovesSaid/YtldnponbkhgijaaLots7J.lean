import Derived.Test.YtldnponbkhgijaaLots5J
import Derived.Test.YtldnponbkhgijaaWideMJ
import Derived.Test.YtldnponbkhgijaaFixJ
section
/-
  Layer 18, seventh part: Sum of the program (laid by gen_lots7.py).
-/
namespace Go.Proofs.Ytldnponbkhgijaa
open Go.ChangeShapes Go.WideShapes Go.ChangeAt Go.RowKit
set_option linter.unusedVariables false
set_option linter.unusedSimpArgs false

theorem EWd : Elem Try.prog 116 28 2 16 := Elem.mk' (z := .agg #[.int .i64 0, .int .u64 0]) (by kernel_rfl) (by kernel_rfl) (by decide) (by decide)
/-- the quantities of an asset's lots -/
def qsL (l : List Lt) (a : Int) : List Int := (l.filter fun x => x.ast == a).map Lt.qty
theorem qsL_len (l : List Lt) (a : Int) : (qsL l a).length ≤ l.length := by unfold qsL; rw [List.length_map]; exact List.length_filter_le _ _
theorem qsL_in {l : List Lt} (h : ∀ y ∈ l, In64 y.qty) (a : Int) : All64 (qsL l a) := by
  intro q hq
  unfold qsL at hq
  obtain ⟨y, hy, rfl⟩ := List.mem_map.1 hq
  exact h y (List.mem_filter.1 hy).1
theorem qsL_snoc (l : List Lt) (a : Int) (k : Nat) (h : k < l.length) : qsL (l.take (k + 1)) a = qsL (l.take k) a ++ (if (l[k].ast == a) = true then [l[k].qty] else []) := by
  unfold qsL
  rw [take_snoc l k h, List.filter_append, List.map_append]
  cases hb : l[k].ast == a <;> simp [hb]
theorem wcells_snoc (l : List Int) (x : Int) : wcells (l ++ [x]) = wcells l ++ [.int .i64 (hiN x), .int .u64 (loN x)] := by simp [wcells]
theorem wide_one (x : Int) : ∀ u ∈ [Value.int .i64 (hiN x), Value.int .u64 (loN x)], u.oneCell' = true := by
  intro u hu
  simp at hu
  rcases hu with rfl | rfl <;> rfl
theorem sum64_128 {l : List Int} (hl : l.length ≤ 1000000) (h : All64 l) : In128 l.sum := by
  have key : ∀ m : List Int, All64 m → -(m.length : Int) * 9223372036854775808 ≤ m.sum ∧ m.sum ≤ (m.length : Int) * 9223372036854775808 := by
    intro m
    induction m with
    | nil => intro _; simp
    | cons a m ih =>
      intro hm
      have h1 := ih (fun x hx => hm x (by simp [hx]))
      have h2 := hm a (by simp)
      unfold In64 at h2
      simp only [List.length_cons, List.sum_cons]
      omega
  have := key l h
  unfold In128
  omega

set_option maxHeartbeats 4000000 in
set_option maxRecDepth 100000 in
theorem lsum_any (A : Option Addr) (cap : Nat) (l : List Lt) (a : Int) (w : World) (hl : l.length ≤ 900000) (hq : ∀ y ∈ l, In64 y.qty) (hs : Sl w A (rc Lt.cells l)) :
    Calls Try.prog 120 #[.slice A l.length cap, .int .i64 a] w fun e w' => e = .returned (.agg #[.int .i64 (hiN (qsL l a).sum), .int .u64 (loN (qsL l a).sum)]) ∧ Below w.heap.size w w' := by
  have HQI := Lib.hid (qsL_in hq a)
  have HQL := Lib.hid (qsL_len l a)
  have HQ := Lib.hid hq
  have H128 := Lib.hid (sum64_128 (by have := HQL.out; omega) HQI.out)
  have hB0 := since_alloc (Below.refl _ w) (.cells #[.int .i64 0, .int .u64 0] 28)
  have G0 := T2.new w 0 0 28
  have hs0 := hs.alloc (.cells #[.int .i64 0, .int .u64 0] 28)
  clear hs hq
  go_enter Try.func120, Try.ntmps120
  go_upto_region 1 with fail
  generalize hWW : w.alloc (.cells #[.int .i64 0, .int .u64 0] 28) = W at *
  clear hWW
  have hWs := hB0.size
  go_wp2_with fail
  go_loopw [5, 12] (fun out i wr => ∃ (k : Nat) (A' : Option Addr) (c' : Nat), k ≤ l.length ∧ i = .int .i64 k ∧ out = .slice A' (qsL (l.take k) a).length c' ∧ wr.ownsRow W.heap.size 28 2 (.slice A' (qsL (l.take k) a).length c') (qsL (l.take k) a).length (wcells (qsL (l.take k) a)) ∧ Below W.heap.size W wr) (fun _ i _ => l.length - (intOf i).toNat)
  case atStart => exact ⟨0, none, 0, by omega, rfl, rfl, own_nil _ _ _, Below.refl _ _⟩
  case round =>
    obtain ⟨k, A', c', hk, rfl, rfl, hown, hB⟩ := hrel
    by_cases hlt : k < l.length
    · obtain ⟨b, o, rfl, hbw, hg⟩ := (hs0.below hB).lt hlt
      have hlk : (k : Int) < (l.length : Int) := by omega
      have hge : (0 : Int) ≤ (k : Int) := by omega
      have HN := Lib.hid (qsL_snoc l a k hlt)
      have hvq := HQ.out _ (List.getElem_mem hlt)
      have hrl : (qsL (l.take k) a).length ≤ k := by have h := qsL_len (l.take k) a; simp only [List.length_take] at h; omega
      generalize l[k] = v at *
      obtain ⟨va, vt, vq⟩ := v
      have HN := Lib.hid HN.out
      simp only at hvq
      obtain ⟨g0, g1, g2⟩ := hg
      simp only at g0 g1 g2
      obtain ⟨R, hR⟩ : ∃ R, qsL (l.take k) a = R := ⟨_, rfl⟩
      rw [hR] at hown HN hrl ⊢
      clear hR
      by_cases h1 : va = a
      · have hN : qsL (l.take (k + 1)) a = R ++ [vq] := by rw [HN.out]; simp [h1]
        have HE := Lib.hid hN
        have hb1 : (va == a) = true := by simpa using h1
        clear HN hN h1
        go_wp2_with fail
        refine (wof_any vq hvq _).mono ?_
        rintro e w1 ⟨rfl, hb⟩
        have hv0 := (Below.refl wr.heap.size wr).alloc (Nat.le_refl _) (.cells #[.int .i64 va, .int .i64 vt, .int .i64 vq] 93)
        have hv1 := since_step hv0 hb
        have hB1 := hB.trans (hv1.mono hB.size)
        have hown1 := own_below hown hv1
        have hsz := hB1.size
        clear hb hv0 hv1 g0 g1 g2
        go_wp2_with (first
          | (at_builtin; refine wpList_app rfl (.tmp 20) (.tmp 24) rfl EWd rfl rfl (hown1.alloc _) (m := 1) (news := [.int .i64 (hiN vq), .int .u64 (loN vq)]) rfl (Sl.new_ _ _ _) (wide_one vq) (by unfold maxLen; omega) (by omega) (by simp only [World.size_alloc]; omega) ?_; intro A2 c2 w2 hown2 hg2 hb2)
          | fail)
        go_roundw
        case rel =>
          refine ⟨k + 1, A2, c2, by omega, by go_num, ?_, ?_, (since_alloc hB1 _).trans hb2⟩
          · rw [HE.out]; simp
          · rw [HE.out, wcells_snoc]; simpa using hown2
        case measure => simp [intOf]; omega
      · have hN : qsL (l.take (k + 1)) a = R := by rw [HN.out]; simp [h1]
        have HE := Lib.hid hN
        have hb1 : (va == a) = false := by simpa using h1
        clear HN hN h1
        have hv0 := (Below.refl wr.heap.size wr).alloc (Nat.le_refl _) (.cells #[.int .i64 va, .int .i64 vt, .int .i64 vq] 93)
        have hB1 := hB.trans (hv0.mono hB.size)
        have hown1 := own_below hown hv0
        clear hv0
        go_wp2_with fail
        go_roundw
        case rel =>
          refine ⟨k + 1, A', c', by omega, by go_num, ?_, ?_, hB1⟩
          · rw [HE.out]
          · rw [HE.out]; exact hown1
        case measure => simp [intOf]; omega
    · obtain rfl : k = l.length := by omega
      rw [List.take_length] at hown ⊢
      have HA := wadd_any A' c' (qsL l a) wr (by have := HQL.out; omega) (fun x hx => (of_in x (HQI.out x hx)).2.2) (Sl.of_own hown)
      rw [wideE_yes H128.out] at HA
      have hB1 := hB0.trans (hB.mono hWs)
      have G1 := T2.below G0 hB
      clear hown
      obtain ⟨z, hz⟩ : ∃ z, (qsL l a).sum = z := ⟨_, rfl⟩
      rw [hz] at HA
      have HZ := Lib.hid hz
      clear hz
      generalize (qsL l a).length = n at *
      go_wp2_with fail
      refine HA.mono ?_
      rintro e w1 ⟨rfl, hb⟩
      have hB2 := since_step hB1 hb
      have G2 := T2.below G1 hb
      have hcs := @cell_set
      obtain ⟨c0, c1, c2, f1, f2⟩ := id G2
      clear hb
      go_wp2_with fail
      refine bodyPost_ret (v := .agg #[.int .i64 (hiN z), .int .u64 (loN z)]) ?_ rfl ?_
      · have G3 := T2.alloc (T2.set2 G2 (hiN z) (loN z)) (.cells #[.int .i64 (hiN z), .int .u64 (loN z)] 28)
        obtain ⟨d0, d1, d2, _, _⟩ := G3
        generalize World.alloc _ _ = U at *
        simp [results, Try.results120, go_sem, d1, d2]
      · refine ⟨by rw [HZ.out], ?_⟩
        repeat' (first | with_reducible exact hB2 | with_reducible refine Below.setCell ?_ ?_ _ | with_reducible refine since_alloc ?_ _)
        all_goals simp
end Go.Proofs.Ytldnponbkhgijaa
end
section
/-
  Layer 18, eighth part: Sum of the document (laid by gen_lots8.py).
-/
namespace Go.Proofs.Ytldnponbkhgijaa
open Go.ChangeShapes Go.WideShapes Go.ChangeAt Go.RowKit
set_option linter.unusedVariables false
set_option linter.unusedSimpArgs false

theorem qsL_sum (l : List Lt) (a : Int) (k : Nat) (h : k < l.length) : (qsL (l.take (k + 1)) a).sum = (qsL (l.take k) a).sum + (if (l[k].ast == a) = true then l[k].qty else 0) := by
  rw [qsL_snoc l a k h]
  cases hb : l[k].ast == a <;> simp
theorem qsL_take_in {l : List Lt} (h : ∀ y ∈ l, In64 y.qty) (a : Int) (k : Nat) (hl : l.length ≤ 900000) : In128 (qsL (l.take k) a).sum := by
  refine sum64_128 ?_ (qsL_in (fun y hy => h y (List.mem_of_mem_take hy)) a)
  have := qsL_len (l.take k) a
  simp only [List.length_take] at this
  omega

set_option maxHeartbeats 4000000 in
set_option maxRecDepth 100000 in
theorem rsum_any (A : Option Addr) (cap : Nat) (l : List Lt) (a : Int) (w : World) (hl : l.length ≤ 900000) (hq : ∀ y ∈ l, In64 y.qty) (hs : Sl w A (rc Lt.cells l)) :
    Calls Try.prog 128 #[.slice A l.length cap, .int .i64 a] w fun e w' => bigR w w' e (qsL l a).sum ∧ Below w.heap.size w w' := by
  have HQQ := Lib.hid hq
  have hB0 := since_alloc (Below.refl _ w) (.cells #[.bool false, .slice none 0 0] 35)
  have G0 := BX.new (w := w) (B := w.heap.size + 1 + 1) (by omega) 35
  have hs0 := hs.alloc (.cells #[.bool false, .slice none 0 0] 35)
  have hWe : (w.alloc (.cells #[.bool false, .slice none 0 0] 35)).heap.size = w.heap.size + 1 := World.size_alloc _ _
  clear hs hq
  go_enter Try.func128, Try.ntmps128
  go_upto_region 1 with fail
  generalize hWW : w.alloc (.cells #[.bool false, .slice none 0 0] 35) = W at *
  clear hWW
  have hWs := hB0.size
  rw [← hWe] at G0
  clear hWe
  go_wp2_with fail
  go_loopw [6] (fun i wr => ∃ (k : Nat) (s : Bool) (A' : Option Addr) (n' c' : Nat), k ≤ l.length ∧ i = .int .i64 k ∧ BX (W.heap.size + 1) wr W.heap.size s A' n' c' (qsL (l.take k) a).sum ∧ Below W.heap.size W wr) (fun i _ => l.length - (intOf i).toNat)
  case atStart => exact ⟨0, false, none, 0, 0, by omega, rfl, BX.new (by omega) _, since_alloc (Below.refl _ _) _⟩
  case round =>
    obtain ⟨k, s6, A6, n6, c6, hk, rfl, X6, hB⟩ := hrel
    by_cases hlt : k < l.length
    · obtain ⟨b, o, rfl, hbw, hg⟩ := hs0.lt hlt
      have hlk : (k : Int) < (l.length : Int) := by omega
      have hge : (0 : Int) ≤ (k : Int) := by omega
      have hN := qsL_sum l a k hlt
      have hvq := HQQ.out _ (List.getElem_mem hlt)
      have H128 := Lib.hid (qsL_take_in HQQ.out a k hl)
      obtain ⟨v, hv⟩ : ∃ v, l[k] = v := ⟨_, rfl⟩
      rw [hv] at hN hvq hg
      clear hv
      obtain ⟨va, vt, vq⟩ := v
      simp only at hN hvq
      have HG : Hid (∀ V, Below W.heap.size W V → Lt.at ⟨va, vt, vq⟩ V b (o + k * 3)) := Lib.hid fun V hV => Lt.at_keep (w := W) hg fun i => hV.cell (p := ⟨b, i, none⟩) hbw
      unfold Lt.at at HG
      simp only at HG
      obtain ⟨y, hy⟩ : ∃ y, (qsL (l.take k) a).sum = y := ⟨_, rfl⟩
      rw [hy] at hN X6 H128
      have HV64 := Lib.hid hvq
      have HQ := Lib.hid (fun W => bof_any vq W hvq)
      clear hy hg hvq
      obtain ⟨g0, g1, g2⟩ := HG.out _ hB
      by_cases h1 : va = a
      · have HE : Hid ((qsL (l.take (k + 1)) a).sum = y + vq) := Lib.hid (by rw [hN]; simp [h1])
        have hb1 : (va == a) = true := by simpa using h1
        clear hN h1
        have X6 := X6.drew
        go_wp2_with fail
        refine wp_region_held_drew (S := (fun V => Below W.heap.size W V)) (by kernel_rfl) (by exact hB.drew) (fun hHeld => ?_)
        refine wpAnyH_take (i := 1) (oi := { dst := some 22, op := _, type := _, pos := _, after := _, guard := _ }) (v := ?_) rfl (by kernel_rfl) (by kernel_rfl) (by kernel_rfl) (fun _ _ _ h => h) (Or.inl ⟨by rfl, ?_⟩) hHeld ?_
        rotate_left
        · (intro w hSw; obtain ⟨g0, g1, g2⟩ := HG.out _ hSw; go_simp <;> with_reducible rfl)
        try simp only [Act.put, List.setIfInBounds_toArray, List.set_cons_zero, List.set_cons_succ]
        refine wpAnyH_take (i := 2) (oi := { dst := some 23, op := _, type := _, pos := _, after := _, guard := _ }) (v := ?_) rfl (by kernel_rfl) (by kernel_rfl) (by kernel_rfl) (fun _ _ _ h => h) (Or.inl ⟨by rfl, ?_⟩) hHeld ?_
        rotate_left
        · (intro w hSw; obtain ⟨g0, g1, g2⟩ := HG.out _ hSw; go_simp <;> with_reducible rfl)
        try simp only [Act.put, List.setIfInBounds_toArray, List.set_cons_zero, List.set_cons_succ]
        refine wpAnyH_take (i := 3) (oi := { dst := some 24, op := _, type := _, pos := _, after := _, guard := _ }) (v := ?_) rfl (by kernel_rfl) (by kernel_rfl) (by kernel_rfl) (fun _ _ _ h => h) (Or.inl ⟨by rfl, ?_⟩) hHeld ?_
        rotate_left
        · (intro w hSw; obtain ⟨g0, g1, g2⟩ := HG.out _ hSw; go_simp <;> with_reducible rfl)
        try simp only [Act.put, List.setIfInBounds_toArray, List.set_cons_zero, List.set_cons_succ]
        refine wpAnyH_take (i := 4) (oi := { dst := some 25, op := _, type := _, pos := _, after := _, guard := _ }) (v := ?_) rfl (by kernel_rfl) (by kernel_rfl) (by kernel_rfl) (fun _ _ _ h => h) (Or.inl ⟨by rfl, ?_⟩) hHeld ?_
        rotate_left
        · (intro w hSw; obtain ⟨g0, g1, g2⟩ := HG.out _ hSw; go_simp <;> with_reducible rfl)
        try simp only [Act.put, List.setIfInBounds_toArray, List.set_cons_zero, List.set_cons_succ]
        refine wpAnyH_take (i := 5) (oi := { dst := some 26, op := _, type := _, pos := _, after := _, guard := _ }) (v := ?_) rfl (by kernel_rfl) (by kernel_rfl) (by kernel_rfl) (fun _ _ _ h => h) (Or.inl ⟨by rfl, ?_⟩) hHeld ?_
        rotate_left
        · (intro w hSw; obtain ⟨g0, g1, g2⟩ := HG.out _ hSw; go_simp <;> with_reducible rfl)
        try simp only [Act.put, List.setIfInBounds_toArray, List.set_cons_zero, List.set_cons_succ]
        refine wpAnyH_ready (rs := [0, 6]) (by kernel_rfl) (by simp) ?_
        refine AllReadyH.cons (o := { dst := some 21, op := _, type := _, pos := _, after := _, guard := _ }) rfl (fun K hK => ?_) (AllReadyH.cons (o := { dst := some 27, op := _, type := _, pos := _, after := _, guard := _ }) rfl (fun K hK => ?_) AllReadyH.nil)
        · have hHd := hHeld
          obtain ⟨g0, g1, g2⟩ := HG.out _ hHd
          obtain ⟨b1, b2, b3, b4, b5⟩ := id X6.bb
          have hKeep := hHeld
          go_simp
          refine hK.out _ _ (by (try dsimp only); exact hKeep) (fun hHeld => ?_)
          clear hK K hKeep
          try simp only [Act.put, List.setIfInBounds_toArray, List.set_cons_zero, List.set_cons_succ]
          refine wpAnyH_ready (rs := [6]) (by kernel_rfl) (by simp) ?_
          refine AllReadyH.cons (o := { dst := some 27, op := _, type := _, pos := _, after := _, guard := _ }) rfl (fun K hK => ?_) AllReadyH.nil
          go_simp
          refine (HQ.out _).mono ?_
          rintro e u1 ⟨⟨s1, A1, m1, k1, rfl, hf1, Y1⟩, hk1⟩
          have hKeep := since_step hHeld hk1
          have L1 := Y1.l64 HV64.out
          have X6 := X6.below hk1
          go_wp2_with fail
          refine hK.out _ _ (by (try dsimp only); exact hKeep) (fun hHeld => ?_)
          clear hK K hKeep
          try simp only [Act.put, List.setIfInBounds_toArray, List.set_cons_zero, List.set_cons_succ]
          refine wpAnyH_ready (rs := [7]) (by kernel_rfl) (by simp) ?_
          refine AllReadyH.cons (o := { dst := some 28, op := _, type := _, pos := _, after := _, guard := _ }) rfl (fun K hK => ?_) AllReadyH.nil
          go_simp
          have L6 := X6.at_.l128 H128.out
          have hgu := X6.bb.1
          refine (badd' (by omega) (by omega) X6.at_ Y1).mono ?_
          rintro e u2 ⟨⟨s2, A2, m2, k2, rfl, hf2, Y2⟩, hk2⟩
          have hKeep := since_step hHeld hk2
          have X6 := X6.below hk2
          go_wp2_with fail
          refine hK.out _ _ (by (try dsimp only); exact hKeep) (fun hHeld => ?_)
          clear hK K hKeep
          try simp only [Act.put, List.setIfInBounds_toArray, List.set_cons_zero, List.set_cons_succ]
          refine wpAnyH_ready (rs := [8]) (by kernel_rfl) (by simp) ?_
          refine AllReadyH.cons (o := { dst := none, op := _, type := _, pos := _, after := _, guard := _ }) rfl (fun K hK => ?_) AllReadyH.nil
          have hHd := hHeld
          obtain ⟨g0, g1, g2⟩ := HG.out _ hHd
          have hF : Fr (W.heap.size + 1) A2 m2 := hf2.le hgu (Nat.le_refl _)
          have X6n := X6.put Y2 hF
          obtain ⟨b1, b2, b3, b4, b5⟩ := id X6.bb
          have hKeep := Below.setCell (Below.setCell hHeld (p := ⟨W.heap.size, 0, none⟩) (Nat.le_refl _) (.bool s2)) (p := ⟨W.heap.size, 1, none⟩) (Nat.le_refl _) (.slice A2 m2 k2)
          skip
          go_simp
          refine hK.out _ _ (by (try dsimp only); exact hKeep) (fun hHeld => ?_)
          clear hK K hKeep
          try simp only [Act.put, List.setIfInBounds_toArray, List.set_cons_zero, List.set_cons_succ]
          refine wpAnyH_done (by kernel_rfl) ?_ _
          generalize hFW : ((u2.setCell ⟨W.heap.size, 0, none⟩ (.bool s2)).setCell ⟨W.heap.size, 1, none⟩ (.slice A2 m2 k2)) = FW at *
          go_wp2_with fail
          go_roundw
          case rel => exact ⟨k + 1, s2, A2, m2, k2, by omega, by go_num, by rw [HE.out]; exact X6n, hHeld⟩
          case measure => simp [intOf]; omega
        · go_simp
          refine (HQ.out _).mono ?_
          rintro e u1 ⟨⟨s1, A1, m1, k1, rfl, hf1, Y1⟩, hk1⟩
          have hKeep := since_step hHeld hk1
          have L1 := Y1.l64 HV64.out
          have X6 := X6.below hk1
          go_wp2_with fail
          refine hK.out _ _ (by (try dsimp only); exact hKeep) (fun hHeld => ?_)
          clear hK K hKeep
          try simp only [Act.put, List.setIfInBounds_toArray, List.set_cons_zero, List.set_cons_succ]
          refine wpAnyH_ready (rs := [0]) (by kernel_rfl) (by simp) ?_
          refine AllReadyH.cons (o := { dst := some 21, op := _, type := _, pos := _, after := _, guard := _ }) rfl (fun K hK => ?_) AllReadyH.nil
          have hHd := hHeld
          obtain ⟨g0, g1, g2⟩ := HG.out _ hHd
          obtain ⟨b1, b2, b3, b4, b5⟩ := id X6.bb
          have hKeep := hHeld
          go_simp
          refine hK.out _ _ (by (try dsimp only); exact hKeep) (fun hHeld => ?_)
          clear hK K hKeep
          try simp only [Act.put, List.setIfInBounds_toArray, List.set_cons_zero, List.set_cons_succ]
          refine wpAnyH_ready (rs := [7]) (by kernel_rfl) (by simp) ?_
          refine AllReadyH.cons (o := { dst := some 28, op := _, type := _, pos := _, after := _, guard := _ }) rfl (fun K hK => ?_) AllReadyH.nil
          go_simp
          have L6 := X6.at_.l128 H128.out
          have hgu := X6.bb.1
          refine (badd' (by omega) (by omega) X6.at_ Y1).mono ?_
          rintro e u2 ⟨⟨s2, A2, m2, k2, rfl, hf2, Y2⟩, hk2⟩
          have hKeep := since_step hHeld hk2
          have X6 := X6.below hk2
          go_wp2_with fail
          refine hK.out _ _ (by (try dsimp only); exact hKeep) (fun hHeld => ?_)
          clear hK K hKeep
          try simp only [Act.put, List.setIfInBounds_toArray, List.set_cons_zero, List.set_cons_succ]
          refine wpAnyH_ready (rs := [8]) (by kernel_rfl) (by simp) ?_
          refine AllReadyH.cons (o := { dst := none, op := _, type := _, pos := _, after := _, guard := _ }) rfl (fun K hK => ?_) AllReadyH.nil
          have hHd := hHeld
          obtain ⟨g0, g1, g2⟩ := HG.out _ hHd
          have hF : Fr (W.heap.size + 1) A2 m2 := hf2.le hgu (Nat.le_refl _)
          have X6n := X6.put Y2 hF
          obtain ⟨b1, b2, b3, b4, b5⟩ := id X6.bb
          have hKeep := Below.setCell (Below.setCell hHeld (p := ⟨W.heap.size, 0, none⟩) (Nat.le_refl _) (.bool s2)) (p := ⟨W.heap.size, 1, none⟩) (Nat.le_refl _) (.slice A2 m2 k2)
          skip
          go_simp
          refine hK.out _ _ (by (try dsimp only); exact hKeep) (fun hHeld => ?_)
          clear hK K hKeep
          try simp only [Act.put, List.setIfInBounds_toArray, List.set_cons_zero, List.set_cons_succ]
          refine wpAnyH_done (by kernel_rfl) ?_ _
          generalize hFW : ((u2.setCell ⟨W.heap.size, 0, none⟩ (.bool s2)).setCell ⟨W.heap.size, 1, none⟩ (.slice A2 m2 k2)) = FW at *
          go_wp2_with fail
          go_roundw
          case rel => exact ⟨k + 1, s2, A2, m2, k2, by omega, by go_num, by rw [HE.out]; exact X6n, hHeld⟩
          case measure => simp [intOf]; omega
      · have HE : Hid ((qsL (l.take (k + 1)) a).sum = y) := Lib.hid (by rw [hN]; simp [h1])
        have hb1 : (va == a) = false := by simpa using h1
        clear hN h1
        go_wp2_with fail
        go_roundw
        case rel => exact ⟨k + 1, s6, A6, n6, c6, by omega, by go_num, by rw [HE.out]; exact X6, hB⟩
        case measure => simp [intOf]; omega
    · obtain rfl : k = l.length := by omega
      rw [List.take_length] at X6
      have hB1 := hB0.trans (hB.mono hWs)
      have G1 := G0.below hB
      have P := G1.put X6.at_ (X6.fr)
      have hcs := @cell_set
      have HFR := Lib.hid (X6.fr.le (B' := w.heap.size) (by omega) (Nat.le_refl _))
      obtain ⟨x1, x2, x3, x4, x5⟩ := id X6.bb
      obtain ⟨y1, y2, y3, y4, y5⟩ := id G1.bb
      clear hs0
      go_wp2_with fail
      refine bodyPost_ret (v := .agg #[.bool s6, .slice A6 n6 c6]) ?_ rfl ?_
      · obtain ⟨d0, d1, d2, _, _⟩ := P.bb
        generalize World.setCell _ _ _ = U at *
        simp [results, Try.results128, go_sem, d1, d2]
      · refine ⟨⟨s6, A6, n6, c6, rfl, HFR.out, P.at_⟩, ?_⟩
        repeat' (first | with_reducible exact hB1 | with_reducible refine Below.setCell ?_ ?_ _)
        all_goals simp
end Go.Proofs.Ytldnponbkhgijaa
end
