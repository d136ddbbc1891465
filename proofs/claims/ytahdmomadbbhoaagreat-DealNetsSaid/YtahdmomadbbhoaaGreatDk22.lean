import Derived.Test.YtahdmomadbbhoaaGreatDk21
section
namespace Go.Proofs.YtahdmomadbbhoaaGreat
open Go.ChangeShapes Go.WideShapes Go.ChangeAt Go.RowKit
set_option linter.unusedVariables false
set_option linter.unusedSimpArgs false

def Po.Df (p : Po → Bool) (l : List Po) (n c g B : Nat) (w : World) (i j : Value) (wr : World) : Prop :=
  ∃ (kk jj : Nat) (l' : List Po), i = .int .i64 kk ∧ j = .int .i64 jj ∧ jj ≤ n ∧ kk < jj ∧ l'.length = n ∧ l'.take kk = (l.take jj).filter (fun g => !p g) ∧ (∀ t, jj ≤ t → l'[t]? = l[t]?) ∧
    wr.ownsRow B 97 3 (.slice (some ⟨g, 0, none⟩) n c) n (rc Po.cells l') ∧ Below B w wr
set_option maxHeartbeats 4000000 in
set_option maxRecDepth 100000 in
theorem delfunc_po (B n c : Nat) (A : Option Addr) (l : List Po) (F : Nat) (caps : Array Value) (p : Po → Bool) (w : World) (hn : l.length = n) (hn6 : n ≤ 1000000) (hBw : B ≤ w.heap.size) (hown : w.ownsRow B 97 3 (.slice A n c) n (rc Po.cells l))
    (hF : Ent Tryz.prog F) (hp : Po.Tells F caps p B w) :
    Calls Tryz.prog 112 #[.slice A n c, .func (.func F) #[] caps] w fun e w' =>
      (∃ A' c', e = .returned (.slice A' (l.filter fun g => !p g).length c') ∧ w'.ownsRow B 97 3 (.slice A' (l.filter fun g => !p g).length c') (l.filter fun g => !p g).length (rc Po.cells (l.filter fun g => !p g))) ∧ Below B w w' := by
  have hidx := index_po A c l F caps p w (by omega) (Sl.of_own hown) hF (hp.below (Below.refl _ _) hBw)
  rw [hn] at hidx
  rcases atL_cases p l with ⟨h0, hno⟩ | ⟨k, hk, h0, hpk, hno⟩
  · rw [h0] at hidx
    rw [filter_none hno, hn]
    go_enter Tryz.func112, Tryz.ntmps112
    go_wp2_with fail
    refine hidx.mono ?_
    rintro e w1 ⟨rfl, hb1⟩
    have hown1 := own_below hown hb1
    go_wp2_with fail
    go_ret
    exact ⟨⟨A, c, rfl, hown1⟩, hb1.mono hBw⟩
  · rw [h0] at hidx
    obtain ⟨g, rfl, hgB, hgw, hgf⟩ := own_at hown (by omega)
    have HFH := Lib.hid (filter_head hk (fun j hj => hno j hj) hpk)
    have hk1 : k < n := by omega
    have hw1 : IntKind.i64.wrap ((k : Int) + 1) = (k : Int) + 1 := by rw [IntKind.wrap_i64]; omega
    have HLN := Lib.hid hn
    have hkm : ((k : Int) == -1) = false := by simp
    clear hno hpk h0
    go_enter Tryz.func112, Tryz.ntmps112
    go_wp2_with fail
    refine hidx.mono ?_
    rintro e w1 ⟨rfl, hb1⟩
    have hown1 := own_below hown hb1
    have hB1 : Below B w w1 := hb1.mono hBw
    clear hb1 hidx
    go_wp2_with fail
    go_loopw [5, 6] (fun i j wr => Po.Df p l n c g B w i j wr) (fun _ j _ => n - (intOf j).toNat)
    case atStart => exact ⟨k, k + 1, l, rfl, by first | rfl | go_num, by omega, by omega, HLN.out, HFH.out.symm, fun t _ => rfl, hown1, hB1⟩
    case round =>
      obtain ⟨kk, jj, l', rfl, rfl, hjn, hkj, hl', htk, hab, howr, hBr⟩ := hrel
      by_cases hlt : jj < n
      · have hl6 : jj < l.length := by have := HLN.out; omega
        have hl7 : jj < l'.length := by omega
        have hl8 : kk < l'.length := by omega
        obtain ⟨b, o, e, hbw, hgat⟩ := (Sl.of_own howr).po hl7
        injection e with e
        injection e with e1 e2 e3
        subst e1; subst e2
        simp only [Nat.zero_add] at hgat
        have hel : l'[jj] = l[jj] := by
          have := hab jj (Nat.le_refl _)
          rw [List.getElem?_eq_getElem hl7, List.getElem?_eq_getElem hl6] at this
          injection this
        rw [hel] at hgat
        have hgg := own_slice_g howr
        have hgw2 := hgg.2.1
        have hfz := hgg.2.2.1
        clear hgg
        have HSN := Lib.hid (filter_snoc (fun g => !p g) l jj hl6)
        have HTK := Lib.hid htk
        have HAB := Lib.hid hab
        have HL7 := Lib.hid hl'
        have HL8 := Lib.hid hl8
        clear hel htk hab hl' hl8
        generalize l[jj] = v at hgat HSN
        clear hl6 hl7
        obtain ⟨g0, g1, g2⟩ := hgat
        have hcs := @cell_set
        have hw2 : IntKind.i64.wrap ((jj : Int) + 1) = (jj : Int) + 1 := by rw [IntKind.wrap_i64]; omega
        have hw3 : IntKind.i64.wrap ((kk : Int) + 1) = (kk : Int) + 1 := by rw [IntKind.wrap_i64]; omega
        cases hq : p v with
        | true =>
          have HQ := Lib.hid hq
          clear hq
          go_wp2_with fail
          rw [hF, Oper.upon_enter]
          have hBa : Below B w (wr.alloc (.cells v.cells.toArray 97)) := hBr.alloc (Nat.le_trans hBw hBr.size) _
          refine (hp v _ hBa).mono ?_
          rintro e w2 ⟨rfl, hb2⟩
          have hown2 := own_below (howr.alloc (.cells v.cells.toArray 97)) hb2
          have hB2 : Below B w w2 := hBa.trans (hb2.mono (Nat.le_trans hBw hBa.size))
          clear hb2 hBa
          rw [HQ.out]
          go_wp2
          go_roundw
          case rel =>
            refine ⟨kk, jj + 1, l', rfl, by go_num, by omega, by omega, HL7.out, ?_, fun t ht => HAB.out t (by omega), hown2, hB2⟩
            rw [HSN.out, HQ.out]
            simpa using HTK.out
          case measure => simp [intOf]; omega
        | false =>
          have HQ := Lib.hid hq
          clear hq
          go_wp2_with fail
          rw [hF, Oper.upon_enter]
          have hBa : Below B w (wr.alloc (.cells v.cells.toArray 97)) := hBr.alloc (Nat.le_trans hBw hBr.size) _
          refine (hp v _ hBa).mono ?_
          rintro e w2 ⟨rfl, hb2⟩
          have hown2 := own_below (howr.alloc (.cells v.cells.toArray 97)) hb2
          have hB2 : Below B w w2 := hBa.trans (hb2.mono (Nat.le_trans hBw hBa.size))
          have Bv := (Bk.new wr v.cells.toArray 97).below hb2
          have hgN : g ≠ wr.heap.size := by omega
          clear hb2 hBa g0 g1 g2 hgw2 hbw
          rw [HQ.out]
          obtain ⟨lb, cb⟩ := id Bv
          have q0 := cb 0
          have q1 := cb 1
          have q2 := cb 2
          simp [Po.cells] at q0 q1 q2
          clear cb Bv
          have hgg := own_slice_g hown2
          have hgw2 := hgg.2.1
          have hfz := hgg.2.2.1
          clear hgg
          obtain ⟨b, o, e, hbw, hgat⟩ := (Sl.of_own hown2).po HL8.out
          injection e with e
          injection e with e1 e2 e3
          subst e1; subst e2
          simp only [Nat.zero_add] at hgat
          generalize l'[kk] = old at hgat
          obtain ⟨g0, g1, g2⟩ := hgat
          go_wp2_with fail
          go_roundw
          case rel =>
            refine ⟨kk + 1, jj + 1, l'.set kk v, by go_num, by go_num, by omega, by omega, by rw [List.length_set]; exact HL7.out, ?_, fun t ht => ?_, own_set_po hown2 HL8.out v, ?_⟩
            · rw [set_take_snoc HL8.out, HSN.out, HQ.out, HTK.out]
              simp
            · rw [set_get_above (by omega)]
              exact HAB.out t (by omega)
            · repeat' (first | with_reducible exact hB2 | with_reducible refine Below.setCell ?_ ?_ _)
              all_goals exact hgB
          case measure => simp [intOf]; omega
      · obtain rfl : jj = n := by omega
        have hkn : kk < jj := hkj
        rcases howr.2 with ⟨hh, _⟩ | ⟨g', cap, cur, hh, hB, hg, hnc, hcm, hcs, ht⟩
        · injection hh with e1; cases e1
        injection hh with e1 e2 e3
        injection e1 with e1
        injection e1 with e1
        subst e1; subst e3
        obtain ⟨inf, z, hinf, hz, hsize, hby, hzs⟩ := EPo.info
        have hzc : (Builtin.zeroCells z.cells (jj - kk)).size = (jj - kk) * 3 := by rw [size_zeroCells, hzs]
        have hm1 : kk * 3 + (jj - kk) * 3 ≤ c * 3 := by
          have h1 : kk + (jj - kk) ≤ c := by omega
          have := Nat.mul_le_mul_right 3 h1
          rwa [Nat.add_mul] at this
        have hkc : kk * 3 ≤ jj * 3 := Nat.mul_le_mul_right _ (by omega)
        have hcl : ∀ ty, (Builtin.clear_ #[22] ty #[.slice (some ⟨g, kk * 3, none⟩) (jj - kk) (c - kk)]).run Tryz.prog wr = .ok (.tuple #[]) (wr.setRow g (cur.toList.take (kk * 3) ++ (Builtin.zeroCells z.cells (jj - kk)).toList ++ cur.toList.drop (kk * 3 + (Builtin.zeroCells z.cells (jj - kk)).toList.length)).toArray) := fun ty =>
          run_clearN wr 22 97 ty z EPo.und (fun w => by simp [zeroValue, typeInfo, hinf, hz]) g (kk * 3) (jj - kk) (c - kk) cur 97 (by omega) hg (by rw [hzc, hcs]; exact hm1) (by
            have hz0 : z = .agg #[.int .i64 0, .int .i64 0, .slice none 0 0] := by
              have h2 : (Tryz.prog.info? 97).bind (·.zero) = some (.agg #[.int .i64 0, .int .i64 0, .slice none 0 0]) := by kernel_rfl
              rw [hinf] at h2
              simp [hz] at h2
              exact h2
            rw [hz0]
            refine zeroCells_one _ _ (by simp [Value.cells]) fun u hu => ?_
            simp [Value.cells] at hu
            first | (subst hu; rfl) | (rcases hu with h | h <;> subst h <;> rfl))
        have hg3 := setRow_heap wr g _ (cur.toList.take (kk * 3) ++ (Builtin.zeroCells z.cells (jj - kk)).toList ++ cur.toList.drop (kk * 3 + (Builtin.zeroCells z.cells (jj - kk)).toList.length)).toArray 97 (0, 0) hg
        have hb3 := below_setRow hBr hB (cur.toList.take (kk * 3) ++ (Builtin.zeroCells z.cells (jj - kk)).toList ++ cur.toList.drop (kk * 3 + (Builtin.zeroCells z.cells (jj - kk)).toList.length)).toArray
        have hsz3 : (cur.toList.take (kk * 3) ++ (Builtin.zeroCells z.cells (jj - kk)).toList ++ cur.toList.drop (kk * 3 + (Builtin.zeroCells z.cells (jj - kk)).toList.length)).toArray.size = c * 3 := by
          simp only [List.size_toArray, List.length_append, List.length_take, List.length_drop, Array.length_toList, hcs, hzc]
          omega
        have htk3 : (cur.toList.take (kk * 3) ++ (Builtin.zeroCells z.cells (jj - kk)).toList ++ cur.toList.drop (kk * 3 + (Builtin.zeroCells z.cells (jj - kk)).toList.length)).toArray.toList.take (kk * 3) = rc Po.cells (l'.take kk) := by
          rw [← rc_take Po.len, ← ht, List.take_take, Nat.min_eq_left hkc, List.append_assoc]
          rw [List.take_append_of_le_length (by simp only [List.length_take, Array.length_toList, hcs]; omega), List.take_take, Nat.min_self]
        generalize (cur.toList.take (kk * 3) ++ (Builtin.zeroCells z.cells (jj - kk)).toList ++ cur.toList.drop (kk * 3 + (Builtin.zeroCells z.cells (jj - kk)).toList.length)).toArray = NEW at hcl hg3 hb3 hsz3 htk3
        generalize wr.setRow g NEW = W3 at hcl hg3 hb3
        have hfl : l.filter (fun g => !p g) = l'.take kk := by rw [htk, List.take_of_length_le (by rw [HLN.out]; omega)]
        have hfn : (l'.take kk).length = kk := by rw [List.length_take]; omega
        have hown3 : W3.ownsRow B 97 3 (.slice (some ⟨g, 0, none⟩) kk c) kk (rc Po.cells (l'.take kk)) :=
          ⟨by rw [rc_length Po.len, hfn], .inr ⟨g, c, NEW, rfl, hB, hg3, by omega, hcm, hsz3, htk3⟩⟩
        have hbk : ¬ (c = kk) := by omega
        have HFL := Lib.hid hfl
        have HFN := Lib.hid hfn
        unfold maxLen at hcm
        clear hfl hfn hg3 htk3 hsz3 hkc hm1 hzc hsize hby hzs hinf hz htk hab hl' hcs ht hg
        go_wp2_with fail
        refine bodyPost_ret (results_tmp rfl _ _ _) rfl ⟨⟨some ⟨g, 0, none⟩, c, ?_, ?_⟩, hb3⟩
        · rw [HFL.out, HFN.out]; rfl
        · rw [HFL.out, HFN.out]; exact hown3
set_option maxHeartbeats 1000000 in
set_option maxRecDepth 100000 in
theorem drop_po (A : Option Addr) (cap : Nat) (l : List Po) (F : Nat) (caps : Array Value) (p : Po → Bool) (w : World) (hl : l.length ≤ 1000000) (hs : Sl w A (rc Po.cells l)) (hF : Ent Tryz.prog F) (hp : Po.Tells F caps p w.heap.size w) :
    Calls Tryz.prog 92 #[.slice A l.length cap, .func (.func F) #[] caps] w fun e w' =>
      (∃ A' c', e = .returned (.slice A' (l.filter fun g => !p g).length c') ∧ w'.ownsRow w.heap.size 97 3 (.slice A' (l.filter fun g => !p g).length c') (l.filter fun g => !p g).length (rc Po.cells (l.filter fun g => !p g))) ∧ Below w.heap.size w w' := by
  go_enter Tryz.func92, Tryz.ntmps92
  go_wp2_with fail
  refine (clone_po A cap l _ hl hs).mono ?_
  rintro e w1 ⟨⟨A1, c1, rfl, hown⟩, hb1⟩
  go_wp2_with fail
  refine (delfunc_po w.heap.size l.length c1 A1 l F caps p w1 rfl hl hb1.size hown hF (hp.below hb1 (Nat.le_refl _))).mono ?_
  rintro e w2 ⟨⟨A2, c2, rfl, hown2⟩, hb2⟩
  go_wp2_with fail
  go_ret
  exact ⟨⟨A2, c2, rfl, hown2⟩, hb1.trans hb2⟩
set_option maxHeartbeats 1000000 in
set_option maxRecDepth 100000 in
theorem find_po (A : Option Addr) (cap : Nat) (l : List Po) (F : Nat) (caps : Array Value) (p : Po → Bool) (w : World) (hl : l.length ≤ 1000000) (hs : Sl w A (rc Po.cells l)) (hF : Ent Tryz.prog F) (hp : Po.Tells F caps p w.heap.size w) :
    Calls Tryz.prog 50 #[.slice A l.length cap, .func (.func F) #[] caps] w fun e w' =>
      e = .returned (.tuple #[(pickL p Po.zero l).val, .bool (l.find? p).isSome]) ∧ Below w.heap.size w w' := by
  have hB0 := since_alloc (Below.refl w.heap.size w) (.cells #[.int .i64 0, .int .i64 0, .slice none 0 0] 97)
  have hidx := index_po A cap l F caps p (w.alloc (.cells #[.int .i64 0, .int .i64 0, .slice none 0 0] 97)) hl (hs.alloc _) hF (hp.below hB0 (by simp))
  have Bz := Bk.new w #[.int .i64 0, .int .i64 0, .slice none 0 0] 97
  rcases atL_cases p l with ⟨h0, hno⟩ | ⟨k, hk, h0, hpk, hno⟩
  · rw [h0] at hidx
    have HF1 := Lib.hid (find_none hno)
    clear hno h0
    go_enter Tryz.func50, Tryz.ntmps50
    go_wp2_with fail
    refine hidx.mono ?_
    rintro e w1 ⟨rfl, hb1⟩
    have hB1 := since_step hB0 hb1
    have Bz := Bz.below hb1
    obtain ⟨lb, cb⟩ := id Bz
    have q0 := cb 0
    have q1 := cb 1
    have q2 := cb 2
    simp at q0 q1 q2
    clear cb
    have hfz : ∀ i, w1.frozen? ⟨w.heap.size, i, none⟩ = false := fun i => by rw [(hb1.frozen (p := ⟨w.heap.size, i, none⟩) (by simp))]; simp
    have hcs := @cell_set
    clear hb1 Bz hidx
    go_wp2_with fail
    refine bodyPost_ret (v := .tuple #[Po.zero.val, .bool false]) ?_ rfl ⟨?_, ?_⟩
    · have hca : ∀ (V : World) (o : Obj) (i : Nat), w.heap.size < V.heap.size → (V.alloc o).cell? ⟨w.heap.size, i, none⟩ = V.cell? ⟨w.heap.size, i, none⟩ := fun V o i h => World.cell?_alloc_lt V o ⟨w.heap.size, i, none⟩ h
      simp [results, Tryz.results50, go_sem, q0, q1, q2, hfz, Po.zero, Po.val, hca, lb]
    · rw [pickL, HF1.out]; rfl
    · repeat' (first | with_reducible exact hB1 | with_reducible refine Below.setCell ?_ ?_ _ | with_reducible refine Below.alloc ?_ ?_ _)
      all_goals first | (simp; done) | (simp; omega)
  · rw [h0] at hidx
    have HF1 := Lib.hid (find_some hk hno hpk)
    clear hno h0 hpk
    go_enter Tryz.func50, Tryz.ntmps50
    go_wp2_with fail
    refine hidx.mono ?_
    rintro e w1 ⟨rfl, hb1⟩
    have hB1 := since_step hB0 hb1
    have Bz := Bz.below hb1
    obtain ⟨lb, cb⟩ := id Bz
    have q0 := cb 0
    have q1 := cb 1
    have q2 := cb 2
    simp at q0 q1 q2
    clear cb
    have hfz : ∀ i, w1.frozen? ⟨w.heap.size, i, none⟩ = false := fun i => by rw [(hb1.frozen (p := ⟨w.heap.size, i, none⟩) (by simp))]; simp
    have hcs := @cell_set
    obtain ⟨b, o, rfl, hbw, hgat⟩ := ((hs.alloc (.cells #[.int .i64 0, .int .i64 0, .slice none 0 0] 97)).below hb1).po hk
    clear hb1 Bz hidx hs
    generalize l[k] = g at *
    obtain ⟨g0, g1, g2⟩ := hgat
    go_wp2_with fail
    refine bodyPost_ret (v := .tuple #[g.val, .bool true]) ?_ rfl ⟨?_, ?_⟩
    · simp [results, Tryz.results50, go_sem, q0, q1, q2, hfz, Po.val]
    · rw [pickL, HF1.out]; rfl
    · repeat' (first | with_reducible exact hB1 | with_reducible refine Below.setCell ?_ ?_ _ | with_reducible refine Below.alloc ?_ ?_ _)
      all_goals first | (simp; done) | (simp; omega)
end Go.Proofs.YtahdmomadbbhoaaGreat
end
