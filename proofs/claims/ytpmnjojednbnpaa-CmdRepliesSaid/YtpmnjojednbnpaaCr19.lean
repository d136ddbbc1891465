import Derived.Test.YtpmnjojednbnpaaCr18
section
namespace Go.Proofs.Ytpmnjojednbnpaa
open Go.ChangeShapes Go.WideShapes Go.ChangeAt Go.RowKit
set_option linter.unusedVariables false
set_option linter.unusedSimpArgs false

theorem few18w (A : Option Addr) (n cap : Nat) (w : World) (hc : n ≤ cap) (hcm : cap ≤ maxLen) (hA : 20 < n → A ≠ none) :
    Calls Try.prog 48 #[.slice A n cap] w fun e w' => e = .returned (.slice A (min n 20) cap) ∧ w' = w := by
  by_cases h : 20 < n
  · have hl : min n 20 = 20 := by omega
    rw [hl]
    have h40 : 20 ≤ cap := by omega
    cases A with
    | none => exact absurd rfl (hA h)
    | some ad =>
      clear hA hl
      go_enter Try.func48, Try.ntmps48
      go_wp2
      go_ret
      exact ⟨rfl, rfl⟩
  · have hl : min n 20 = n := by omega
    rw [hl]
    clear hA hl
    go_enter Try.func48, Try.ntmps48
    go_wp2
    go_ret
    exact ⟨rfl, rfl⟩
def fewR (x : Rn) : Rn := ⟨x.a, x.b, x.q, x.A, x.c, x.lots.take 20⟩
theorem Chg.anyG {g : Nat} {w w' : World} (h : Chg g none w w') {B : Nat} (hB : B ≤ w.heap.size) (hg : B ≤ g) : Below B w w' := h.below hB hg (fun b e => by cases e)
set_option maxHeartbeats 32000000 in
set_option maxRecDepth 100000 in
theorem few34a (er : Int) (A1 A2 A3 : Option Addr) (c1 c2 c3 : Nat) (nums NU : List Int) (debs : List Db) (rets : List Rn) (w : World) (hNU : NU = nums.take 40) (hn : nums.length ≤ 40) (hc1 : nums.length ≤ c1) (hcm : c1 ≤ maxLen) (hs1 : Sl w A1 (ints .i64 nums)) (hdl : debs.length ≤ maxLen) (hrl : rets.length ≤ maxLen) (hs2 : Sl w A2 (rc Db.cells debs)) (hs3 : Sl w A3 (rc Rn.cells rets)) (hx : ∀ x ∈ rets, x.lots.length ≤ x.c ∧ x.c ≤ maxLen ∧ Sl w x.A (rc Lo.cells x.lots)) :
    Calls Try.prog 19 #[.agg #[.int .i64 er, .slice A1 nums.length c1, .slice A2 debs.length c2, .slice A3 rets.length c3]] w fun e w' => ∃ (LD : List Db) (LR : List Rn) (AD : Option Addr) (cD : Nat) (AR : Option Addr) (cR : Nat), e = .returned (.agg #[.int .i64 er, .slice A1 NU.length c1, .slice AD LD.length cD, .slice AR LR.length cR]) ∧ LD = debs.take 12 ∧ LR = (rets.take 12).map fewR ∧ w'.ownsRow w.heap.size 94 5 (.slice AD LD.length cD) LD.length (rc Db.cells LD) ∧ w'.ownsRow w.heap.size 97 4 (.slice AR LR.length cR) LR.length (rc Rn.cells LR) ∧ Below w.heap.size w w' := by
  have hNL : NU.length = nums.length := by rw [hNU, List.length_take]; omega
  have h40i : ¬ (40 : Int) < (nums.length : Int) := by omega
  unfold maxLen at hcm hdl hrl
  obtain ⟨q, hq⟩ : ∃ q, w.heap.size = q := ⟨_, rfl⟩
  have HQ := Lib.hid hq
  have HS : Hid (∀ V, Below q w V → (∀ k, (hk : k < debs.length) → ∃ p o, A2 = some ⟨p, o, none⟩ ∧ p < V.heap.size ∧ V.cell? ⟨p, o + k * 5, none⟩ = some (.int .i64 debs[k].a) ∧ V.cell? ⟨p, o + k * 5 + 1, none⟩ = some (.int .i64 debs[k].b) ∧ V.cell? ⟨p, o + k * 5 + 2, none⟩ = some (.int .i64 debs[k].c) ∧ V.cell? ⟨p, o + k * 5 + 3, none⟩ = some (.int .i64 debs[k].d) ∧ V.cell? ⟨p, o + k * 5 + 4, none⟩ = some (.int .i64 debs[k].q)) ∧ (∀ k, (hk : k < rets.length) → ∃ p o, A3 = some ⟨p, o, none⟩ ∧ p < V.heap.size ∧ V.cell? ⟨p, o + k * 4, none⟩ = some (.int .i64 rets[k].a) ∧ V.cell? ⟨p, o + k * 4 + 1, none⟩ = some (.int .i64 rets[k].b) ∧ V.cell? ⟨p, o + k * 4 + 2, none⟩ = some (.int .i64 rets[k].q) ∧ V.cell? ⟨p, o + k * 4 + 3, none⟩ = some (.slice rets[k].A rets[k].lots.length rets[k].c))) := Lib.hid fun V hV => by
    have hV2 : Below w.heap.size w V := by rw [hq]; exact hV
    refine ⟨fun k hk => ?_, fun k hk => ?_⟩
    · obtain ⟨p, o, e, hlt, hc⟩ := Sl.elem (m := 5) (fun x => rfl) (by decide) (hs2.below hV2) hk
      exact ⟨p, o, e, hlt, hc 0 _ rfl, hc 1 _ rfl, hc 2 _ rfl, hc 3 _ rfl, hc 4 _ rfl⟩
    · obtain ⟨p, o, e, hlt, hc⟩ := Sl.elem (m := 4) (fun x => rfl) (by decide) (hs3.below hV2) hk
      exact ⟨p, o, e, hlt, hc 0 _ rfl, hc 1 _ rfl, hc 2 _ rfl, hc 3 _ rfl⟩
  have HX : Hid (∀ k, (hk : k < rets.length) → rets[k].lots.length ≤ rets[k].c ∧ rets[k].c ≤ maxLen ∧ (20 < rets[k].lots.length → rets[k].A ≠ none)) := Lib.hid fun k hk => by
    obtain ⟨h1, h2, h3⟩ := hx _ (List.getElem_mem hk)
    refine ⟨h1, h2, fun h e => ?_⟩
    obtain ⟨b, o, e2, _⟩ := Sl.elem (m := 3) (fun x => rfl) (by decide) h3 (k := 0) (by omega)
    rw [e] at e2
    cases e2
  have hal1 := since_alloc (Below.refl _ w) (.cells #[.int .i64 er, .slice A1 nums.length c1, .slice A2 debs.length c2, .slice A3 rets.length c3] 50)
  have hal2 := since_alloc (Below.refl _ (w.alloc (.cells #[.int .i64 er, .slice A1 nums.length c1, .slice A2 debs.length c2, .slice A3 rets.length c3] 50))) (.cells #[.int .i64 0, .slice none 0 0, .slice none 0 0, .slice none 0 0] 50)
  have hal3 := since_alloc (Below.refl _ ((w.alloc (.cells #[.int .i64 er, .slice A1 nums.length c1, .slice A2 debs.length c2, .slice A3 rets.length c3] 50)).alloc (.cells #[.int .i64 0, .slice none 0 0, .slice none 0 0, .slice none 0 0] 50))) (.cells #[.int .i64 er, .slice A1 NU.length c1, .slice none 0 0, .slice none 0 0] 50)
  have x1 := heap_alloc_new w (.cells #[.int .i64 er, .slice A1 nums.length c1, .slice A2 debs.length c2, .slice A3 rets.length c3] 50)
  have x2 := heap_alloc_new (w.alloc (.cells #[.int .i64 er, .slice A1 nums.length c1, .slice A2 debs.length c2, .slice A3 rets.length c3] 50)) (.cells #[.int .i64 0, .slice none 0 0, .slice none 0 0, .slice none 0 0] 50)
  have x3 := heap_alloc_new ((w.alloc (.cells #[.int .i64 er, .slice A1 nums.length c1, .slice A2 debs.length c2, .slice A3 rets.length c3] 50)).alloc (.cells #[.int .i64 0, .slice none 0 0, .slice none 0 0, .slice none 0 0] 50)) (.cells #[.int .i64 er, .slice A1 NU.length c1, .slice none 0 0, .slice none 0 0] 50)
  have hz1 : (w.alloc (.cells #[.int .i64 er, .slice A1 nums.length c1, .slice A2 debs.length c2, .slice A3 rets.length c3] 50)).heap.size = q + 1 := by rw [World.size_alloc, hq]
  have hz2 : ((w.alloc (.cells #[.int .i64 er, .slice A1 nums.length c1, .slice A2 debs.length c2, .slice A3 rets.length c3] 50)).alloc (.cells #[.int .i64 0, .slice none 0 0, .slice none 0 0, .slice none 0 0] 50)).heap.size = q + 2 := by rw [World.size_alloc, hz1]
  have hz3 : (((w.alloc (.cells #[.int .i64 er, .slice A1 nums.length c1, .slice A2 debs.length c2, .slice A3 rets.length c3] 50)).alloc (.cells #[.int .i64 0, .slice none 0 0, .slice none 0 0, .slice none 0 0] 50)).alloc (.cells #[.int .i64 er, .slice A1 NU.length c1, .slice none 0 0, .slice none 0 0] 50)).heap.size = q + 3 := by rw [World.size_alloc, hz2]
  rw [hz1] at hal2
  rw [hz2] at hal3
  rw [hq] at hal1 x1
  rw [hz1] at x2
  rw [hz2] at x3
  have x2 := (hal3.block (q + 1) (by omega)).trans x2
  have x1 := (hal3.block q (by omega)).trans ((hal2.block q (by omega)).trans x1)
  have hB3 : Below q w (((w.alloc (.cells #[.int .i64 er, .slice A1 nums.length c1, .slice A2 debs.length c2, .slice A3 rets.length c3] 50)).alloc (.cells #[.int .i64 0, .slice none 0 0, .slice none 0 0, .slice none 0 0] 50)).alloc (.cells #[.int .i64 er, .slice A1 NU.length c1, .slice none 0 0, .slice none 0 0] 50)) := hal1.trans ((hal2.mono (Nat.le_succ _)).trans (hal3.mono (by omega)))
  obtain ⟨W3, hW3⟩ : ∃ W3, ((w.alloc (.cells #[.int .i64 er, .slice A1 nums.length c1, .slice A2 debs.length c2, .slice A3 rets.length c3] 50)).alloc (.cells #[.int .i64 0, .slice none 0 0, .slice none 0 0, .slice none 0 0] 50)).alloc (.cells #[.int .i64 er, .slice A1 NU.length c1, .slice none 0 0, .slice none 0 0] 50) = W3 := ⟨_, rfl⟩
  rw [hW3] at x1 x2 x3 hz3 hB3
  have HXB : Hid (∀ V, Chg (q + 2) none W3 V → V.heap[q]? = some (.cells #[.int .i64 er, .slice A1 nums.length c1, .slice A2 debs.length c2, .slice A3 rets.length c3] 50 (0, 0)) ∧ V.heap[q + 1]? = some (.cells #[.int .i64 0, .slice none 0 0, .slice none 0 0, .slice none 0 0] 50 (0, 0)) ∧ Below q w V ∧ q + 3 ≤ V.heap.size) := Lib.hid fun V hC =>
    ⟨(hC.block q (by omega) (by omega) (fun e => by cases e)).trans x1, (hC.block (q + 1) (by omega) (by omega) (fun e => by cases e)).trans x2, hB3.trans (hC.anyG (by omega) (by omega)), by have := hC.size; omega⟩
  have HW3 := Lib.hid hW3
  have HX3 := Lib.hid x3
  have HZ3 := Lib.hid hz3
  have HNL := Lib.hid hNL
  have HHN := Lib.hid hNU
  clear hs1 hs2 hs3 hx hal1 hal2 hal3 x1 x2 x3 hz1 hz2 hz3 hB3 hW3 hNL hNU
  rw [hq]
  clear hq
  go_enter Try.func19, Try.ntmps19
  go_upto_region 4 with fail
  rw [HQ.out]
  have HW4 : Hid (((w.alloc (.cells #[.int .i64 er, .slice A1 nums.length c1, .slice A2 debs.length c2, .slice A3 rets.length c3] 50)).alloc (.cells #[.int .i64 0, .slice none 0 0, .slice none 0 0, .slice none 0 0] 50)).alloc (.cells #[.int .i64 er, .slice A1 nums.length c1, .slice none 0 0, .slice none 0 0] 50) = W3) := Lib.hid (by have h := HW3.out; rw [HNL.out] at h; exact h)
  rw [show q + 1 + 1 = q + 2 from rfl, HW4.out]
  have HX4 : Hid (W3.heap[q + 2]? = some (.cells #[.int .i64 er, .slice A1 NU.length c1, .slice none 0 0, .slice none 0 0] 50 (0, 0))) := HX3
  clear HW3 HW4 HX3 h40i
  go_wp2_with fail
  go_loopw [4, 5] (fun iv xv wr => ∃ (k : Nat) (LD : List Db) (LR : List Rn) (AD : Option Addr) (cD : Nat) (AR : Option Addr) (cR : Nat), k ≤ 12 ∧ iv = .int .i64 (k : Int) ∧ LD = debs.take k ∧ LR = (rets.take k).map fewR ∧ wr.heap[q + 2]? = some (.cells #[.int .i64 er, .slice A1 NU.length c1, .slice AD LD.length cD, .slice AR LR.length cR] 50 (0, 0)) ∧ wr.ownsRow (q + 3) 94 5 (.slice AD LD.length cD) LD.length (rc Db.cells LD) ∧ wr.ownsRow (q + 3) 97 4 (.slice AR LR.length cR) LR.length (rc Rn.cells LR) ∧ Chg (q + 2) none W3 wr) (fun iv _ _ => 12 - (intOf iv).toNat)
  case atStart => exact ⟨0, [], [], none, 0, none, 0, by omega, rfl, rfl, rfl, HX4.out, own_nil _ _ _, own_nil _ _ _, Chg.refl _ _ _⟩
  case round =>
    clear HX4
    obtain ⟨k, LD, LR, AD, cD, AR, cR, hk, rfl, hLD, hLR, hb3, hod, hor, hC⟩ := hrel
    obtain ⟨x1, x2, hBq, hsz⟩ := HXB.out wr hC
    by_cases hk12 : k < 12
    · have hk1 : (k : Int) < (12 : Int) := by omega
      have hk0 : (0 : Int) ≤ (k : Int) := by omega
      have hLDl : LD.length ≤ 12 := by rw [hLD, List.length_take]; omega
      have hLRl : LR.length ≤ 12 := by rw [hLR, List.length_map, List.length_take]; omega
      have HLD := Lib.hid hLD
      have HLR := Lib.hid hLR
      clear hLD hLR x2 hsz
      by_cases hkd : k < debs.length
      · have hkd1 : (k : Int) < (debs.length : Int) := by omega
        obtain ⟨q2, _⟩ := HS.out wr hBq
        obtain ⟨p2, o2, hA2, _, _⟩ := q2 k hkd
        have HTD : Hid (debs.take (k + 1) = LD ++ [debs[k]]) := Lib.hid (by rw [take_snoc debs k hkd, ← HLD.out])
        have HE : Hid (∀ V, Below q w V → ∃ p o, A2 = some ⟨p, o, none⟩ ∧ p < V.heap.size ∧ V.cell? ⟨p, o + k * 5, none⟩ = some (.int .i64 debs[k].a) ∧ V.cell? ⟨p, o + k * 5 + 1, none⟩ = some (.int .i64 debs[k].b) ∧ V.cell? ⟨p, o + k * 5 + 2, none⟩ = some (.int .i64 debs[k].c) ∧ V.cell? ⟨p, o + k * 5 + 3, none⟩ = some (.int .i64 debs[k].d) ∧ V.cell? ⟨p, o + k * 5 + 4, none⟩ = some (.int .i64 debs[k].q)) := Lib.hid fun V hV => (HS.out V hV).1 k hkd
        obtain ⟨x, hxe⟩ : ∃ x, debs[k] = x := ⟨_, rfl⟩
        rw [hxe] at HTD HE
        obtain ⟨xa, xb, xc, xd, xq⟩ := x
        subst hA2
        have HC := Lib.hid hC
        have HF : Hid (∀ V, Chg (q + 2) none W3 V → V.cell? ⟨q, 2, none⟩ = some (.slice (some ⟨p2, o2, none⟩) debs.length c2) ∧ q < V.heap.size ∧ p2 < V.heap.size ∧ V.cell? ⟨p2, o2 + k * 5, none⟩ = some (.int .i64 xa) ∧ V.cell? ⟨p2, o2 + k * 5 + 1, none⟩ = some (.int .i64 xb) ∧ V.cell? ⟨p2, o2 + k * 5 + 2, none⟩ = some (.int .i64 xc) ∧ V.cell? ⟨p2, o2 + k * 5 + 3, none⟩ = some (.int .i64 xd) ∧ V.cell? ⟨p2, o2 + k * 5 + 4, none⟩ = some (.int .i64 xq)) := Lib.hid fun V hV => by
          obtain ⟨x1, x2, hB, _⟩ := HXB.out V hV
          obtain ⟨p, o, e, hl, h0, h1, h2, h3, h4⟩ := HE.out V hB
          injection e with e
          injection e with e1 e2 _
          subst e1; subst e2
          exact ⟨(cell_of_row V q 2 _ _ (0, 0) x1).trans rfl, (Array.getElem?_eq_some_iff.1 x1).1, hl, h0, h1, h2, h3, h4⟩
        have HOD := Lib.hid hod
        have HOR := Lib.hid hor
        have HB3 := Lib.hid hb3
        have HSZ : Hid (q + 3 ≤ wr.heap.size) := Lib.hid (HXB.out wr hC).2.2.2
        clear q2 hxe hod hor hC hBq HE
        have i2 : wr.cell? ⟨q, 2, none⟩ = some (.slice (some ⟨p2, o2, none⟩) debs.length c2) := (cell_of_row wr (q) 2 _ _ (0, 0) x1).trans rfl
        have fi2 : wr.frozen? ⟨q, 2, none⟩ = false := by simp [World.frozen?, x1]
        have il : q < wr.heap.size := (Array.getElem?_eq_some_iff.1 x1).1
        clear x1
        go_upto_region 8 with fail
        clear i2 fi2 il
        clear hb3
        go_cut [] (fun wx => ∃ (LE : List Db) (AE : Option Addr) (cE : Nat), LE = debs.take (k + 1) ∧ wx.heap[q + 2]? = some (.cells #[.int .i64 er, .slice A1 NU.length c1, .slice AE LE.length cE, .slice AR LR.length cR] 50 (0, 0)) ∧ wx.ownsRow (q + 3) 94 5 (.slice AE LE.length cE) LE.length (rc Db.cells LE) ∧ wx.ownsRow (q + 3) 97 4 (.slice AR LR.length cR) LR.length (rc Rn.cells LR) ∧ Chg (q + 2) none W3 wx)
        case first =>
          refine wp_region_held_drew (S := (fun V => Chg (q + 2) none W3 V)) (by kernel_rfl) (by exact (HC.out.trans (Chg.of_below (Below.refl _ wr).drew) (.inl rfl))) (fun hHeld => ?_)
          have hdr : Below wr.heap.size wr wr.drew := (Below.refl _ wr).drew
          generalize wr.drew = wd at hHeld hdr ⊢
          have HDR := Lib.hid hdr
          clear hdr
          refine wpAnyH_take (i := 0) (oi := { dst := some 28, op := _, type := _, pos := _, after := _, guard := _ }) (v := ?_) rfl (by kernel_rfl) (by kernel_rfl) (by kernel_rfl) (fun _ _ _ h => h) (Or.inl ⟨by rfl, ?_⟩) hHeld ?_
          rotate_left
          · (intro w hSw; clear hSw; go_simp <;> with_reducible rfl)
          try simp only [Act.put, List.setIfInBounds_toArray, List.set_cons_zero, List.set_cons_succ]
          refine wpAnyH_take (i := 2) (oi := { dst := some 30, op := _, type := _, pos := _, after := _, guard := _ }) (v := ?_) rfl (by kernel_rfl) (by kernel_rfl) (by kernel_rfl) (fun _ _ _ h => h) (Or.inl ⟨by rfl, ?_⟩) hHeld ?_
          rotate_left
          · (intro w hSw; clear hSw; go_simp <;> with_reducible rfl)
          try simp only [Act.put, List.setIfInBounds_toArray, List.set_cons_zero, List.set_cons_succ]
          refine wpAnyH_take (i := 3) (oi := { dst := some 31, op := _, type := _, pos := _, after := _, guard := _ }) (v := ?_) rfl (by kernel_rfl) (by kernel_rfl) (by kernel_rfl) (fun _ _ _ h => h) (Or.inl ⟨by rfl, ?_⟩) hHeld ?_
          rotate_left
          · (intro w hSw; obtain ⟨t0, tl, tp, t1, t2, t3, t4, t5⟩ := HF.out _ (hSw); go_simp <;> with_reducible rfl)
          try simp only [Act.put, List.setIfInBounds_toArray, List.set_cons_zero, List.set_cons_succ]
          refine wpAnyH_take (i := 4) (oi := { dst := some 32, op := _, type := _, pos := _, after := _, guard := _ }) (v := ?_) rfl (by kernel_rfl) (by kernel_rfl) (by kernel_rfl) (fun _ _ _ h => h) (Or.inl ⟨by rfl, ?_⟩) hHeld ?_
          rotate_left
          · (intro w hSw; clear hSw; go_simp <;> with_reducible rfl)
          try simp only [Act.put, List.setIfInBounds_toArray, List.set_cons_zero, List.set_cons_succ]
          refine wpAnyH_take (i := 5) (oi := { dst := some 33, op := _, type := _, pos := _, after := _, guard := _ }) (v := ?_) rfl (by kernel_rfl) (by kernel_rfl) (by kernel_rfl) (fun _ _ _ h => h) (Or.inl ⟨by rfl, ?_⟩) hHeld ?_
          rotate_left
          · (intro w hSw; clear hSw; go_simp <;> with_reducible rfl)
          try simp only [Act.put, List.setIfInBounds_toArray, List.set_cons_zero, List.set_cons_succ]
          refine wpAnyH_take (i := 6) (oi := { dst := some 34, op := _, type := _, pos := _, after := _, guard := _ }) (v := ?_) rfl (by kernel_rfl) (by kernel_rfl) (by kernel_rfl) (fun _ _ _ h => h) (Or.inl ⟨by rfl, ?_⟩) hHeld ?_
          rotate_left
          · (intro w hSw; obtain ⟨t0, tl, tp, t1, t2, t3, t4, t5⟩ := HF.out _ (hSw); go_simp <;> with_reducible rfl)
          try simp only [Act.put, List.setIfInBounds_toArray, List.set_cons_zero, List.set_cons_succ]
          refine wpAnyH_ready (rs := [1, 7]) (by kernel_rfl) (by simp) ?_
          refine AllReadyH.cons (o := { dst := some 29, op := _, type := _, pos := _, after := _, guard := _ }) rfl (fun K hK => ?_) (AllReadyH.cons (o := { dst := some 35, op := _, type := _, pos := _, after := _, guard := _ }) rfl (fun K hK => ?_) AllReadyH.nil)
          · have hHd := hHeld
            obtain ⟨t0, tl, tp, t1, t2, t3, t4, t5⟩ := HF.out _ (hHd)
            have hKeep := hHeld
            have hb30 : wd.heap[q + 2]? = some (.cells #[.int .i64 er, .slice A1 NU.length c1, .slice AD LD.length cD, .slice AR LR.length cR] 50 (0, 0)) := ((HDR.out.block (q + 2) (by have := HSZ.out; omega)).trans HB3.out)
            have k2 : wd.cell? ⟨q + 2, 2, none⟩ = some (.slice AD LD.length cD) := (cell_of_row wd (q + 2) 2 _ _ (0, 0) hb30).trans rfl
            have kl : q + 2 < wd.heap.size := (Array.getElem?_eq_some_iff.1 hb30).1
            go_simp
            refine hK.out _ _ (by (try dsimp only); exact hKeep) (fun hHeld => ?_)
            clear hK K hKeep
            try simp only [Act.put, List.setIfInBounds_toArray, List.set_cons_zero, List.set_cons_succ]
            refine wpAnyH_ready (rs := [7]) (by kernel_rfl) (by simp) ?_
            refine AllReadyH.cons (o := { dst := some 35, op := _, type := _, pos := _, after := _, guard := _ }) rfl (fun K hK => ?_) AllReadyH.nil
            have hHd := hHeld
            obtain ⟨t0, tl, tp, t1, t2, t3, t4, t5⟩ := HF.out _ (hHd)
            have hal6 := since_alloc (Below.refl _ wd) (.cells #[.int .i64 xa, .int .i64 xb, .int .i64 xc, .int .i64 xd, .int .i64 xq] 94)
            have hdr := HDR.out
            have hKeep : Chg (q + 2) none W3 (wd.alloc (.cells #[.int .i64 xa, .int .i64 xb, .int .i64 xc, .int .i64 xd, .int .i64 xq] 94)) := hHeld.trans (Chg.of_below hal6) (.inl rfl)
            have hb31 : (wd.alloc (.cells #[.int .i64 xa, .int .i64 xb, .int .i64 xc, .int .i64 xd, .int .i64 xq] 94)).heap[q + 2]? = some (.cells #[.int .i64 er, .slice A1 NU.length c1, .slice AD LD.length cD, .slice AR LR.length cR] 50 (0, 0)) := (hal6.block (q + 2) (by have := HSZ.out; have := hdr.size; omega)).trans ((hdr.block (q + 2) (by have := HSZ.out; omega)).trans HB3.out)
            have hod1 := own_below (own_below HOD.out hdr) hal6
            have hor1 := own_below (own_below HOR.out hdr) hal6
            have hC1 := hKeep
            clear hal6 hdr
            go_simp
            refine hK.out _ _ (by (try dsimp only); exact hKeep) (fun hHeld => ?_)
            clear hK K hKeep
            try simp only [Act.put, List.setIfInBounds_toArray, List.set_cons_zero, List.set_cons_succ]
            refine wpAnyH_ready (rs := [8]) (by kernel_rfl) (by simp) ?_
            refine AllReadyH.cons (o := { dst := some 36, op := _, type := _, pos := _, after := _, guard := _ }) rfl (fun K hK => ?_) AllReadyH.nil
            refine step_app rfl (.tmp 29) (.tmp 35) rfl EDb34 (n := LD.length) (m := 1) (c := cD) (d := 1) (A := AD) (B := some ⟨wd.heap.size, 0, none⟩) (by simp [Act.eval, Act.put]; done) (by simp [Act.eval, Act.put]; done) hod1 (news := [.int .i64 xa, .int .i64 xb, .int .i64 xc, .int .i64 xd, .int .i64 xq]) rfl (Sl.new_ _ _ _) (fun z hz => by simp only [List.mem_cons, List.not_mem_nil, or_false] at hz; rcases hz with rfl | rfl | rfl | rfl | rfl <;> rfl) (by unfold maxLen; omega) (by omega) (by have := hC1.size; have := HZ3.out; omega) ?_
            intro A8 c8 w8 own8 hg8 hb8
            have hKeep : Chg (q + 2) none W3 w8 := hC1.thenB hb8 (by have := HZ3.out; omega)
            have hb38 := (hb8.block (q + 2) (by omega)).trans hb31
            have hor8 := own_kept_types (by decide) hor1 hod1 hg8
            have hC8 := hKeep
            have kv8 : w8.cell? ⟨q + 2, 2, none⟩ = some (.slice AD LD.length cD) := (cell_of_row w8 (q + 2) 2 _ _ (0, 0) hb38).trans rfl
            have fk8 : w8.frozen? ⟨q + 2, 2, none⟩ = false := by simp [World.frozen?, hb38]
            have hbl8 : q + 2 < w8.heap.size := (Array.getElem?_eq_some_iff.1 hb38).1
            refine hK.out _ _ (by (try dsimp only); exact hKeep) (fun hHeld => ?_)
            clear hK K hKeep
            try simp only [Act.put, List.setIfInBounds_toArray, List.set_cons_zero, List.set_cons_succ]
            refine wpAnyH_take (i := 9) (oi := { dst := some 37, op := _, type := _, pos := _, after := _, guard := _ }) (v := ?_) rfl (by kernel_rfl) (by kernel_rfl) (by kernel_rfl) (fun _ _ _ h => h) (Or.inl ⟨by rfl, ?_⟩) hHeld ?_
            rotate_left
            · (intro w hSw; clear hSw; go_simp <;> with_reducible rfl)
            try simp only [Act.put, List.setIfInBounds_toArray, List.set_cons_zero, List.set_cons_succ]
            refine wpAnyH_ready (rs := [10]) (by kernel_rfl) (by simp) ?_
            refine AllReadyH.cons (o := { dst := none, op := _, type := _, pos := _, after := _, guard := _ }) rfl (fun K hK => ?_) AllReadyH.nil
            have hHd := hHeld
            obtain ⟨t0, tl, tp, t1, t2, t3, t4, t5⟩ := HF.out _ (hHd)
            have hKeep : Chg (q + 2) none W3 (w8.setCell ⟨q + 2, 2, none⟩ (.slice A8 (LD.length + 1) c8)) := hC8.trans (Chg.set (g := q + 2) (row := none) 2 (.slice A8 (LD.length + 1) c8)) (.inl rfl)
            have hb39 := setb34 2 (.slice A8 (LD.length + 1) c8) hb38
            have own9 := own_box34 own8 hb38 (by decide) 2 (.slice A8 (LD.length + 1) c8)
            have hor9 := own_box34 hor8 hb38 (by decide) 2 (.slice A8 (LD.length + 1) c8)
            have hC9 := hKeep
            skip
            go_simp
            refine hK.out _ _ (by (try dsimp only); exact hKeep) (fun hHeld => ?_)
            clear hK K hKeep
            try simp only [Act.put, List.setIfInBounds_toArray, List.set_cons_zero, List.set_cons_succ]
            refine wpAnyH_done (by kernel_rfl) ?_ _
            go_wp2_with fail
            go_meet
            case rel =>
              have hll : LD.length + 1 = (LD ++ [(⟨xa, xb, xc, xd, xq⟩ : Db)]).length := by rw [List.length_append]; rfl
              have hce : rc Db.cells LD ++ [.int .i64 xa, .int .i64 xb, .int .i64 xc, .int .i64 xd, .int .i64 xq] = rc Db.cells (LD ++ [(⟨xa, xb, xc, xd, xq⟩ : Db)]) := by rw [rc_snoc34]; rfl
              refine ⟨LD ++ [⟨xa, xb, xc, xd, xq⟩], A8, c8, HTD.out.symm, ?_, ?_, hor9, hC9⟩
              · rw [← hll]; exact hb39
              · rw [← hll, ← hce]; exact own9
          · have hHd := hHeld
            obtain ⟨t0, tl, tp, t1, t2, t3, t4, t5⟩ := HF.out _ (hHd)
            have hal6 := since_alloc (Below.refl _ wd) (.cells #[.int .i64 xa, .int .i64 xb, .int .i64 xc, .int .i64 xd, .int .i64 xq] 94)
            have hdr := HDR.out
            have hKeep : Chg (q + 2) none W3 (wd.alloc (.cells #[.int .i64 xa, .int .i64 xb, .int .i64 xc, .int .i64 xd, .int .i64 xq] 94)) := hHeld.trans (Chg.of_below hal6) (.inl rfl)
            have hb31 : (wd.alloc (.cells #[.int .i64 xa, .int .i64 xb, .int .i64 xc, .int .i64 xd, .int .i64 xq] 94)).heap[q + 2]? = some (.cells #[.int .i64 er, .slice A1 NU.length c1, .slice AD LD.length cD, .slice AR LR.length cR] 50 (0, 0)) := (hal6.block (q + 2) (by have := HSZ.out; have := hdr.size; omega)).trans ((hdr.block (q + 2) (by have := HSZ.out; omega)).trans HB3.out)
            have hod1 := own_below (own_below HOD.out hdr) hal6
            have hor1 := own_below (own_below HOR.out hdr) hal6
            have hC1 := hKeep
            clear hal6 hdr
            go_simp
            refine hK.out _ _ (by (try dsimp only); exact hKeep) (fun hHeld => ?_)
            clear hK K hKeep
            try simp only [Act.put, List.setIfInBounds_toArray, List.set_cons_zero, List.set_cons_succ]
            refine wpAnyH_ready (rs := [1]) (by kernel_rfl) (by simp) ?_
            refine AllReadyH.cons (o := { dst := some 29, op := _, type := _, pos := _, after := _, guard := _ }) rfl (fun K hK => ?_) AllReadyH.nil
            have hHd := hHeld
            obtain ⟨t0, tl, tp, t1, t2, t3, t4, t5⟩ := HF.out _ (hHd)
            have hKeep := hHeld
            have hb30 : (wd.alloc (.cells #[.int .i64 xa, .int .i64 xb, .int .i64 xc, .int .i64 xd, .int .i64 xq] 94)).heap[q + 2]? = some (.cells #[.int .i64 er, .slice A1 NU.length c1, .slice AD LD.length cD, .slice AR LR.length cR] 50 (0, 0)) := hb31
            have k2 : (wd.alloc (.cells #[.int .i64 xa, .int .i64 xb, .int .i64 xc, .int .i64 xd, .int .i64 xq] 94)).cell? ⟨q + 2, 2, none⟩ = some (.slice AD LD.length cD) := (cell_of_row (wd.alloc (.cells #[.int .i64 xa, .int .i64 xb, .int .i64 xc, .int .i64 xd, .int .i64 xq] 94)) (q + 2) 2 _ _ (0, 0) hb30).trans rfl
            have kl : q + 2 < (wd.alloc (.cells #[.int .i64 xa, .int .i64 xb, .int .i64 xc, .int .i64 xd, .int .i64 xq] 94)).heap.size := (Array.getElem?_eq_some_iff.1 hb30).1
            go_simp
            refine hK.out _ _ (by (try dsimp only); exact hKeep) (fun hHeld => ?_)
            clear hK K hKeep
            try simp only [Act.put, List.setIfInBounds_toArray, List.set_cons_zero, List.set_cons_succ]
            refine wpAnyH_ready (rs := [8]) (by kernel_rfl) (by simp) ?_
            refine AllReadyH.cons (o := { dst := some 36, op := _, type := _, pos := _, after := _, guard := _ }) rfl (fun K hK => ?_) AllReadyH.nil
            refine step_app rfl (.tmp 29) (.tmp 35) rfl EDb34 (n := LD.length) (m := 1) (c := cD) (d := 1) (A := AD) (B := some ⟨wd.heap.size, 0, none⟩) (by simp [Act.eval, Act.put]; done) (by simp [Act.eval, Act.put]; done) hod1 (news := [.int .i64 xa, .int .i64 xb, .int .i64 xc, .int .i64 xd, .int .i64 xq]) rfl (Sl.new_ _ _ _) (fun z hz => by simp only [List.mem_cons, List.not_mem_nil, or_false] at hz; rcases hz with rfl | rfl | rfl | rfl | rfl <;> rfl) (by unfold maxLen; omega) (by omega) (by have := hC1.size; have := HZ3.out; omega) ?_
            intro A8 c8 w8 own8 hg8 hb8
            have hKeep : Chg (q + 2) none W3 w8 := hC1.thenB hb8 (by have := HZ3.out; omega)
            have hb38 := (hb8.block (q + 2) (by omega)).trans hb31
            have hor8 := own_kept_types (by decide) hor1 hod1 hg8
            have hC8 := hKeep
            have kv8 : w8.cell? ⟨q + 2, 2, none⟩ = some (.slice AD LD.length cD) := (cell_of_row w8 (q + 2) 2 _ _ (0, 0) hb38).trans rfl
            have fk8 : w8.frozen? ⟨q + 2, 2, none⟩ = false := by simp [World.frozen?, hb38]
            have hbl8 : q + 2 < w8.heap.size := (Array.getElem?_eq_some_iff.1 hb38).1
            refine hK.out _ _ (by (try dsimp only); exact hKeep) (fun hHeld => ?_)
            clear hK K hKeep
            try simp only [Act.put, List.setIfInBounds_toArray, List.set_cons_zero, List.set_cons_succ]
            refine wpAnyH_take (i := 9) (oi := { dst := some 37, op := _, type := _, pos := _, after := _, guard := _ }) (v := ?_) rfl (by kernel_rfl) (by kernel_rfl) (by kernel_rfl) (fun _ _ _ h => h) (Or.inl ⟨by rfl, ?_⟩) hHeld ?_
            rotate_left
            · (intro w hSw; clear hSw; go_simp <;> with_reducible rfl)
            try simp only [Act.put, List.setIfInBounds_toArray, List.set_cons_zero, List.set_cons_succ]
            refine wpAnyH_ready (rs := [10]) (by kernel_rfl) (by simp) ?_
            refine AllReadyH.cons (o := { dst := none, op := _, type := _, pos := _, after := _, guard := _ }) rfl (fun K hK => ?_) AllReadyH.nil
            have hHd := hHeld
            obtain ⟨t0, tl, tp, t1, t2, t3, t4, t5⟩ := HF.out _ (hHd)
            have hKeep : Chg (q + 2) none W3 (w8.setCell ⟨q + 2, 2, none⟩ (.slice A8 (LD.length + 1) c8)) := hC8.trans (Chg.set (g := q + 2) (row := none) 2 (.slice A8 (LD.length + 1) c8)) (.inl rfl)
            have hb39 := setb34 2 (.slice A8 (LD.length + 1) c8) hb38
            have own9 := own_box34 own8 hb38 (by decide) 2 (.slice A8 (LD.length + 1) c8)
            have hor9 := own_box34 hor8 hb38 (by decide) 2 (.slice A8 (LD.length + 1) c8)
            have hC9 := hKeep
            skip
            go_simp
            refine hK.out _ _ (by (try dsimp only); exact hKeep) (fun hHeld => ?_)
            clear hK K hKeep
            try simp only [Act.put, List.setIfInBounds_toArray, List.set_cons_zero, List.set_cons_succ]
            refine wpAnyH_done (by kernel_rfl) ?_ _
            go_wp2_with fail
            go_meet
            case rel =>
              have hll : LD.length + 1 = (LD ++ [(⟨xa, xb, xc, xd, xq⟩ : Db)]).length := by rw [List.length_append]; rfl
              have hce : rc Db.cells LD ++ [.int .i64 xa, .int .i64 xb, .int .i64 xc, .int .i64 xd, .int .i64 xq] = rc Db.cells (LD ++ [(⟨xa, xb, xc, xd, xq⟩ : Db)]) := by rw [rc_snoc34]; rfl
              refine ⟨LD ++ [⟨xa, xb, xc, xd, xq⟩], A8, c8, HTD.out.symm, ?_, ?_, hor9, hC9⟩
              · rw [← hll]; exact hb39
              · rw [← hll, ← hce]; exact own9
        case rest =>
          clear HF HOD HB3 HC HTD HSZ
          obtain ⟨LE, AE, cE, hLE, hb3, hod, hor, hC⟩ := hcut
          have HLDN := Lib.hid hLE
          clear hLE HOR
          have HC := Lib.hid hC
          have HOD := Lib.hid hod
          have HOR := Lib.hid hor
          have HB3 := Lib.hid hb3
          obtain ⟨x1, x2, hBq, hsz⟩ := HXB.out wc hC
          clear x2 hC hod hor
          by_cases hkr : k < rets.length
          · have hkr1 : (k : Int) < (rets.length : Int) := by omega
            obtain ⟨_, q3⟩ := HS.out wc hBq
            obtain ⟨p3, o3, hA3, p3l, e0, e1, e2, e3⟩ := q3 k hkr
            obtain ⟨hxc, hxm, hxn⟩ := HX.out k hkr
            have HTK : Hid ((rets.take (k + 1)).map fewR = LR ++ [fewR rets[k]]) := Lib.hid (by rw [take_snoc rets k hkr, List.map_append, ← HLR.out]; rfl)
            clear q3 hBq
            obtain ⟨x, hxe⟩ : ∃ x, rets[k] = x := ⟨_, rfl⟩
            rw [hxe] at e0 e1 e2 e3 hxc hxm hxn HTK
            obtain ⟨xa, xb, xq, xA, xc, xl⟩ := x
            simp only at e0 e1 e2 e3 hxc hxm hxn
            subst hA3
            have i2 : wc.cell? ⟨q, 2, none⟩ = some (.slice (some ⟨p2, o2, none⟩) debs.length c2) := (cell_of_row wc (q) 2 _ _ (0, 0) x1).trans rfl
            have fi2 : wc.frozen? ⟨q, 2, none⟩ = false := by simp [World.frozen?, x1]
            have i3 : wc.cell? ⟨q, 3, none⟩ = some (.slice (some ⟨p3, o3, none⟩) rets.length c3) := (cell_of_row wc (q) 3 _ _ (0, 0) x1).trans rfl
            have fi3 : wc.frozen? ⟨q, 3, none⟩ = false := by simp [World.frozen?, x1]
            have il : q < wc.heap.size := (Array.getElem?_eq_some_iff.1 x1).1
            have HFW := Lib.hid (few18w xA xl.length xc ((wc.alloc (.cells #[.int .i64 xa, .int .i64 xb, .int .i64 xq, .slice xA xl.length xc] 97))) hxc hxm hxn)
            clear hxe x1
            have b3 : wc.cell? ⟨q + 2, 3, none⟩ = some (.slice AR LR.length cR) := (cell_of_row wc (q + 2) 3 _ _ (0, 0) hb3).trans rfl
            have fb3 : wc.frozen? ⟨q + 2, 3, none⟩ = false := by simp [World.frozen?, hb3]
            have bl : q + 2 < wc.heap.size := (Array.getElem?_eq_some_iff.1 hb3).1
            clear hb3 hxc hxm hxn
            go_wp2_with fail
            refine HFW.out.mono ?_
            rintro e y ⟨rfl, rfl⟩
            obtain ⟨M, hM⟩ : ∃ M, xl.take 20 = M := ⟨_, rfl⟩
            have hml : min xl.length 20 = M.length := by rw [← hM, List.length_take]; omega
            have HM := Lib.hid hM
            rw [hml]
            have HOR2 := Lib.hid ((HOR.out.alloc (.cells #[.int .i64 xa, .int .i64 xb, .int .i64 xq, .slice xA M.length xc] 97)).alloc (.cells #[.int .i64 xa, .int .i64 xb, .int .i64 xq, .slice xA M.length xc] 97))
            have hor2 := HOR2.out
            have HSZ : Hid (q + 3 ≤ wc.heap.size) := Lib.hid hsz
            have hu1 := since_alloc (Below.refl _ wc) (.cells #[.int .i64 xa, .int .i64 xb, .int .i64 xq, .slice xA M.length xc] 97)
            have hu2 := since_alloc (Below.refl _ (wc.alloc (.cells #[.int .i64 xa, .int .i64 xb, .int .i64 xq, .slice xA M.length xc] 97))) (.cells #[.int .i64 xa, .int .i64 xb, .int .i64 xq, .slice xA M.length xc] 97)
            have HU := Lib.hid (since_step hu1 hu2)
            clear hml hM hu1 hu2 HFW e0 e1 e2 e3 hsz
            go_wp2_with (first
              | (at_builtin; refine wpList_app rfl (.tmp 53) (.tmp 55) rfl ERn34 rfl rfl hor2 (m := 1) (news := [.int .i64 xa, .int .i64 xb, .int .i64 xq, .slice xA M.length xc]) rfl (Sl.new1 _ _ _ _) (fun z hz => by simp only [List.mem_cons, List.not_mem_nil, or_false] at hz; rcases hz with rfl | rfl | rfl | rfl <;> rfl) (by unfold maxLen; omega) (by omega) (by simp only [World.size_alloc]; have := HSZ.out; omega) ?_; intro A7 c7 w7 own7 hg7 hb7; have hB67 : Below (q + 3) wc w7 := (HU.out.mono HSZ.out).trans hb7; have hb8 := (hB67.block (q + 2) (by omega)).trans HB3.out; have b3 : w7.cell? ⟨q + 2, 2 + 1, none⟩ = some (.slice AR LR.length cR) := (cell_of_row w7 (q + 2) 3 _ _ (0, 0) hb8).trans rfl; have fb3 : w7.frozen? ⟨q + 2, 2 + 1, none⟩ = false := (by simp [World.frozen?, hb8]); have bl : q + 2 < w7.heap.size := (Array.getElem?_eq_some_iff.1 hb8).1; have HB8 := Lib.hid hb8; have HG7 := Lib.hid hg7; have HB67 := Lib.hid hB67; have HO7 := Lib.hid own7; clear hb8 hg7 hB67 hb7 own7)
              | fail)
            have hb9 := setb34 3 (.slice A7 (LR.length + 1) c7) HB8.out
            have hu1 := since_alloc (Below.refl _ wc) (.cells #[.int .i64 xa, .int .i64 xb, .int .i64 xq, .slice xA M.length xc] 97)
            have hu2 := since_alloc (Below.refl _ (wc.alloc (.cells #[.int .i64 xa, .int .i64 xb, .int .i64 xq, .slice xA M.length xc] 97))) (.cells #[.int .i64 xa, .int .i64 xb, .int .i64 xq, .slice xA M.length xc] 97)
            have hod8 := own_kept_types (by decide) (own_below HOD.out HU.out) HOR2.out HG7.out
            have hod9 := own_box34 hod8 HB8.out (by decide) 3 (.slice A7 (LR.length + 1) c7)
            have hor9 := own_box34 HO7.out HB8.out (by decide) 3 (.slice A7 (LR.length + 1) c7)
            have hC9 : Chg (q + 2) none W3 (w7.setCell ⟨q + 2, 3, none⟩ (.slice A7 (LR.length + 1) c7)) := (HC.out.thenB HB67.out (by have := HZ3.out; omega)).trans (Chg.set (g := q + 2) (row := none) 3 (.slice A7 (LR.length + 1) c7)) (.inl rfl)
            have hll : LR.length + 1 = (LR ++ [(⟨xa, xb, xq, xA, xc, M⟩ : Rn)]).length := by rw [List.length_append]; rfl
            have hce : rc Rn.cells LR ++ [.int .i64 xa, .int .i64 xb, .int .i64 xq, .slice xA M.length xc] = rc Rn.cells (LR ++ [(⟨xa, xb, xq, xA, xc, M⟩ : Rn)]) := by rw [rc_snoc34]; rfl
            have hfin : LR ++ [(⟨xa, xb, xq, xA, xc, M⟩ : Rn)] = (rets.take (k + 1)).map fewR := by rw [HTK.out, ← HM.out]; rfl
            go_roundw
            case rel =>
              refine ⟨k + 1, LE, LR ++ [⟨xa, xb, xq, xA, xc, M⟩], AE, cE, A7, c7, by omega, by go_num, HLDN.out, hfin, ?_, hod9, ?_, hC9⟩
              · rw [← hll]; exact hb9
              · rw [← hll, ← hce]; exact hor9
            case measure => simp [intOf]; omega
          · have hkr1 : ¬ (k : Int) < (rets.length : Int) := by omega
            have hfin : LR = (rets.take (k + 1)).map fewR := by rw [List.take_of_length_le (by omega), HLR.out, List.take_of_length_le (by omega)]
            have HF := Lib.hid hfin
            clear hfin hb3 hBq hsz
            have i3 : wc.cell? ⟨q, 3, none⟩ = some (.slice A3 rets.length c3) := (cell_of_row wc (q) 3 _ _ (0, 0) x1).trans rfl
            have fi3 : wc.frozen? ⟨q, 3, none⟩ = false := by simp [World.frozen?, x1]
            have il : q < wc.heap.size := (Array.getElem?_eq_some_iff.1 x1).1
            clear x1
            go_wp2_with fail
            go_roundw
            case rel => exact ⟨k + 1, LE, LR, AE, cE, AR, cR, by omega, by go_num, HLDN.out, HF.out, HB3.out, HOD.out, HOR.out, HC.out⟩
            case measure => simp [intOf]; omega
      · have hkd1 : ¬ (k : Int) < (debs.length : Int) := by omega
        have hLE : LD = debs.take (k + 1) := by rw [List.take_of_length_le (by omega), HLD.out, List.take_of_length_le (by omega)]
        have HLDN := Lib.hid hLE
        clear hLE hBq
        have j2 : wr.cell? ⟨q, 2, none⟩ = some (.slice A2 debs.length c2) := (cell_of_row wr (q) 2 _ _ (0, 0) x1).trans rfl
        have fj2 : wr.frozen? ⟨q, 2, none⟩ = false := by simp [World.frozen?, x1]
        have jl : q < wr.heap.size := (Array.getElem?_eq_some_iff.1 x1).1
        clear x1
        go_upto_region 9 with fail
        clear j2 fj2 jl
        have HC := Lib.hid hC
        have HOD := Lib.hid hod
        have HOR := Lib.hid hor
        have HB3 := Lib.hid hb3
        obtain ⟨x1, x2, hBq, hsz⟩ := HXB.out wr hC
        clear x2 hC hod hor
        by_cases hkr : k < rets.length
        · have hkr1 : (k : Int) < (rets.length : Int) := by omega
          obtain ⟨_, q3⟩ := HS.out wr hBq
          obtain ⟨p3, o3, hA3, p3l, e0, e1, e2, e3⟩ := q3 k hkr
          obtain ⟨hxc, hxm, hxn⟩ := HX.out k hkr
          have HTK : Hid ((rets.take (k + 1)).map fewR = LR ++ [fewR rets[k]]) := Lib.hid (by rw [take_snoc rets k hkr, List.map_append, ← HLR.out]; rfl)
          clear q3 hBq
          obtain ⟨x, hxe⟩ : ∃ x, rets[k] = x := ⟨_, rfl⟩
          rw [hxe] at e0 e1 e2 e3 hxc hxm hxn HTK
          obtain ⟨xa, xb, xq, xA, xc, xl⟩ := x
          simp only at e0 e1 e2 e3 hxc hxm hxn
          subst hA3
          have i2 : wr.cell? ⟨q, 2, none⟩ = some (.slice A2 debs.length c2) := (cell_of_row wr (q) 2 _ _ (0, 0) x1).trans rfl
          have fi2 : wr.frozen? ⟨q, 2, none⟩ = false := by simp [World.frozen?, x1]
          have i3 : wr.cell? ⟨q, 3, none⟩ = some (.slice (some ⟨p3, o3, none⟩) rets.length c3) := (cell_of_row wr (q) 3 _ _ (0, 0) x1).trans rfl
          have fi3 : wr.frozen? ⟨q, 3, none⟩ = false := by simp [World.frozen?, x1]
          have il : q < wr.heap.size := (Array.getElem?_eq_some_iff.1 x1).1
          have HFW := Lib.hid (few18w xA xl.length xc ((wr.alloc (.cells #[.int .i64 xa, .int .i64 xb, .int .i64 xq, .slice xA xl.length xc] 97))) hxc hxm hxn)
          clear hxe x1
          have b3 : wr.cell? ⟨q + 2, 3, none⟩ = some (.slice AR LR.length cR) := (cell_of_row wr (q + 2) 3 _ _ (0, 0) hb3).trans rfl
          have fb3 : wr.frozen? ⟨q + 2, 3, none⟩ = false := by simp [World.frozen?, hb3]
          have bl : q + 2 < wr.heap.size := (Array.getElem?_eq_some_iff.1 hb3).1
          clear hb3 hxc hxm hxn
          go_wp2_with fail
          refine HFW.out.mono ?_
          rintro e y ⟨rfl, rfl⟩
          obtain ⟨M, hM⟩ : ∃ M, xl.take 20 = M := ⟨_, rfl⟩
          have hml : min xl.length 20 = M.length := by rw [← hM, List.length_take]; omega
          have HM := Lib.hid hM
          rw [hml]
          have HOR2 := Lib.hid ((HOR.out.alloc (.cells #[.int .i64 xa, .int .i64 xb, .int .i64 xq, .slice xA M.length xc] 97)).alloc (.cells #[.int .i64 xa, .int .i64 xb, .int .i64 xq, .slice xA M.length xc] 97))
          have hor2 := HOR2.out
          have HSZ : Hid (q + 3 ≤ wr.heap.size) := Lib.hid hsz
          have hu1 := since_alloc (Below.refl _ wr) (.cells #[.int .i64 xa, .int .i64 xb, .int .i64 xq, .slice xA M.length xc] 97)
          have hu2 := since_alloc (Below.refl _ (wr.alloc (.cells #[.int .i64 xa, .int .i64 xb, .int .i64 xq, .slice xA M.length xc] 97))) (.cells #[.int .i64 xa, .int .i64 xb, .int .i64 xq, .slice xA M.length xc] 97)
          have HU := Lib.hid (since_step hu1 hu2)
          clear hml hM hu1 hu2 HFW e0 e1 e2 e3 hsz
          go_wp2_with (first
            | (at_builtin; refine wpList_app rfl (.tmp 53) (.tmp 55) rfl ERn34 rfl rfl hor2 (m := 1) (news := [.int .i64 xa, .int .i64 xb, .int .i64 xq, .slice xA M.length xc]) rfl (Sl.new1 _ _ _ _) (fun z hz => by simp only [List.mem_cons, List.not_mem_nil, or_false] at hz; rcases hz with rfl | rfl | rfl | rfl <;> rfl) (by unfold maxLen; omega) (by omega) (by simp only [World.size_alloc]; have := HSZ.out; omega) ?_; intro A7 c7 w7 own7 hg7 hb7; have hB67 : Below (q + 3) wr w7 := (HU.out.mono HSZ.out).trans hb7; have hb8 := (hB67.block (q + 2) (by omega)).trans HB3.out; have b3 : w7.cell? ⟨q + 2, 2 + 1, none⟩ = some (.slice AR LR.length cR) := (cell_of_row w7 (q + 2) 3 _ _ (0, 0) hb8).trans rfl; have fb3 : w7.frozen? ⟨q + 2, 2 + 1, none⟩ = false := (by simp [World.frozen?, hb8]); have bl : q + 2 < w7.heap.size := (Array.getElem?_eq_some_iff.1 hb8).1; have HB8 := Lib.hid hb8; have HG7 := Lib.hid hg7; have HB67 := Lib.hid hB67; have HO7 := Lib.hid own7; clear hb8 hg7 hB67 hb7 own7)
            | fail)
          have hb9 := setb34 3 (.slice A7 (LR.length + 1) c7) HB8.out
          have hu1 := since_alloc (Below.refl _ wr) (.cells #[.int .i64 xa, .int .i64 xb, .int .i64 xq, .slice xA M.length xc] 97)
          have hu2 := since_alloc (Below.refl _ (wr.alloc (.cells #[.int .i64 xa, .int .i64 xb, .int .i64 xq, .slice xA M.length xc] 97))) (.cells #[.int .i64 xa, .int .i64 xb, .int .i64 xq, .slice xA M.length xc] 97)
          have hod8 := own_kept_types (by decide) (own_below HOD.out HU.out) HOR2.out HG7.out
          have hod9 := own_box34 hod8 HB8.out (by decide) 3 (.slice A7 (LR.length + 1) c7)
          have hor9 := own_box34 HO7.out HB8.out (by decide) 3 (.slice A7 (LR.length + 1) c7)
          have hC9 : Chg (q + 2) none W3 (w7.setCell ⟨q + 2, 3, none⟩ (.slice A7 (LR.length + 1) c7)) := (HC.out.thenB HB67.out (by have := HZ3.out; omega)).trans (Chg.set (g := q + 2) (row := none) 3 (.slice A7 (LR.length + 1) c7)) (.inl rfl)
          have hll : LR.length + 1 = (LR ++ [(⟨xa, xb, xq, xA, xc, M⟩ : Rn)]).length := by rw [List.length_append]; rfl
          have hce : rc Rn.cells LR ++ [.int .i64 xa, .int .i64 xb, .int .i64 xq, .slice xA M.length xc] = rc Rn.cells (LR ++ [(⟨xa, xb, xq, xA, xc, M⟩ : Rn)]) := by rw [rc_snoc34]; rfl
          have hfin : LR ++ [(⟨xa, xb, xq, xA, xc, M⟩ : Rn)] = (rets.take (k + 1)).map fewR := by rw [HTK.out, ← HM.out]; rfl
          go_roundw
          case rel =>
            refine ⟨k + 1, LD, LR ++ [⟨xa, xb, xq, xA, xc, M⟩], AD, cD, A7, c7, by omega, by go_num, HLDN.out, hfin, ?_, hod9, ?_, hC9⟩
            · rw [← hll]; exact hb9
            · rw [← hll, ← hce]; exact hor9
          case measure => simp [intOf]; omega
        · have hkr1 : ¬ (k : Int) < (rets.length : Int) := by omega
          have hfin : LR = (rets.take (k + 1)).map fewR := by rw [List.take_of_length_le (by omega), HLR.out, List.take_of_length_le (by omega)]
          have HF := Lib.hid hfin
          clear hfin hb3 hBq hsz
          have i3 : wr.cell? ⟨q, 3, none⟩ = some (.slice A3 rets.length c3) := (cell_of_row wr (q) 3 _ _ (0, 0) x1).trans rfl
          have fi3 : wr.frozen? ⟨q, 3, none⟩ = false := by simp [World.frozen?, x1]
          have il : q < wr.heap.size := (Array.getElem?_eq_some_iff.1 x1).1
          clear x1
          go_wp2_with fail
          go_roundw
          case rel => exact ⟨k + 1, LD, LR, AD, cD, AR, cR, by omega, by go_num, HLDN.out, HF.out, HB3.out, HOD.out, HOR.out, HC.out⟩
          case measure => simp [intOf]; omega
    · obtain rfl : k = 12 := by omega
      clear x1
      have b0 : wr.cell? ⟨q + 2, 0, none⟩ = some (.int .i64 er) := (cell_of_row wr (q + 2) 0 _ _ (0, 0) hb3).trans rfl
      have fb0 : wr.frozen? ⟨q + 2, 0, none⟩ = false := by simp [World.frozen?, hb3]
      have b1 : wr.cell? ⟨q + 2, 1, none⟩ = some (.slice A1 NU.length c1) := (cell_of_row wr (q + 2) 1 _ _ (0, 0) hb3).trans rfl
      have fb1 : wr.frozen? ⟨q + 2, 1, none⟩ = false := by simp [World.frozen?, hb3]
      have b2 : wr.cell? ⟨q + 2, 2, none⟩ = some (.slice AD LD.length cD) := (cell_of_row wr (q + 2) 2 _ _ (0, 0) hb3).trans rfl
      have fb2 : wr.frozen? ⟨q + 2, 2, none⟩ = false := by simp [World.frozen?, hb3]
      have b3 : wr.cell? ⟨q + 2, 3, none⟩ = some (.slice AR LR.length cR) := (cell_of_row wr (q + 2) 3 _ _ (0, 0) hb3).trans rfl
      have fb3 : wr.frozen? ⟨q + 2, 3, none⟩ = false := by simp [World.frozen?, hb3]
      have bl : q + 2 < wr.heap.size := (Array.getElem?_eq_some_iff.1 hb3).1
      have z0 : wr.cell? ⟨q + 1, 0, none⟩ = some (.int .i64 0) := (cell_of_row wr (q + 1) 0 _ _ (0, 0) x2).trans rfl
      have fz0 : wr.frozen? ⟨q + 1, 0, none⟩ = false := by simp [World.frozen?, x2]
      have z1 : wr.cell? ⟨q + 1, 1, none⟩ = some (.slice none 0 0) := (cell_of_row wr (q + 1) 1 _ _ (0, 0) x2).trans rfl
      have fz1 : wr.frozen? ⟨q + 1, 1, none⟩ = false := by simp [World.frozen?, x2]
      have z2 : wr.cell? ⟨q + 1, 2, none⟩ = some (.slice none 0 0) := (cell_of_row wr (q + 1) 2 _ _ (0, 0) x2).trans rfl
      have fz2 : wr.frozen? ⟨q + 1, 2, none⟩ = false := by simp [World.frozen?, x2]
      have z3 : wr.cell? ⟨q + 1, 3, none⟩ = some (.slice none 0 0) := (cell_of_row wr (q + 1) 3 _ _ (0, 0) x2).trans rfl
      have fz3 : wr.frozen? ⟨q + 1, 3, none⟩ = false := by simp [World.frozen?, x2]
      have zl : q + 1 < wr.heap.size := (Array.getElem?_eq_some_iff.1 x2).1
      have hcs := @cell_set
      have HOD := Lib.hid hod
      have HOR := Lib.hid hor
      have HLD := Lib.hid hLD
      have HLR := Lib.hid hLR
      have HBQ := Lib.hid hBq
      clear hod hor hLD hLR hb3 x2 hC hBq
      go_wp2_with fail
      refine bodyPost_ret (v := .agg #[.int .i64 er, .slice A1 NU.length c1, .slice AD LD.length cD, .slice AR LR.length cR]) ?_ rfl ⟨LD, LR, AD, cD, AR, cR, rfl, HLD.out, HLR.out, ?_, ?_, ?_⟩
      · simp [results, Try.results19, go_sem, z0, z1, z2, z3, hcs]
      · exact own_base8 (own_at34 HOD.out (((((Chg.refl (q + 1) none wr).trans (Chg.set (g := q + 1) (row := none) 0 (.int .i64 er)) (.inl rfl)).trans (Chg.set (g := q + 1) (row := none) 1 (.slice A1 NU.length c1)) (.inl rfl)).trans (Chg.set (g := q + 1) (row := none) 2 (.slice AD LD.length cD)) (.inl rfl)).trans (Chg.set (g := q + 1) (row := none) 3 (.slice AR LR.length cR)) (.inl rfl)) (by omega)) (by omega)
      · exact own_base8 (own_at34 HOR.out (((((Chg.refl (q + 1) none wr).trans (Chg.set (g := q + 1) (row := none) 0 (.int .i64 er)) (.inl rfl)).trans (Chg.set (g := q + 1) (row := none) 1 (.slice A1 NU.length c1)) (.inl rfl)).trans (Chg.set (g := q + 1) (row := none) 2 (.slice AD LD.length cD)) (.inl rfl)).trans (Chg.set (g := q + 1) (row := none) 3 (.slice AR LR.length cR)) (.inl rfl)) (by omega)) (by omega)
      · exact ((((HBQ.out.setCell (by show q ≤ q + 1; omega) _).setCell (by show q ≤ q + 1; omega) _).setCell (by show q ≤ q + 1; omega) _).setCell (by show q ≤ q + 1; omega) _)
set_option maxHeartbeats 32000000 in
set_option maxRecDepth 100000 in
theorem few34b (er : Int) (A1 A2 A3 : Option Addr) (c1 c2 c3 : Nat) (nums NU : List Int) (debs : List Db) (rets : List Rn) (w : World) (hNU : NU = nums.take 40) (hn : 40 < nums.length) (hc1 : nums.length ≤ c1) (hcm : c1 ≤ maxLen) (hs1 : Sl w A1 (ints .i64 nums)) (hdl : debs.length ≤ maxLen) (hrl : rets.length ≤ maxLen) (hs2 : Sl w A2 (rc Db.cells debs)) (hs3 : Sl w A3 (rc Rn.cells rets)) (hx : ∀ x ∈ rets, x.lots.length ≤ x.c ∧ x.c ≤ maxLen ∧ Sl w x.A (rc Lo.cells x.lots)) :
    Calls Try.prog 19 #[.agg #[.int .i64 er, .slice A1 nums.length c1, .slice A2 debs.length c2, .slice A3 rets.length c3]] w fun e w' => ∃ (LD : List Db) (LR : List Rn) (AD : Option Addr) (cD : Nat) (AR : Option Addr) (cR : Nat), e = .returned (.agg #[.int .i64 er, .slice A1 NU.length c1, .slice AD LD.length cD, .slice AR LR.length cR]) ∧ LD = debs.take 12 ∧ LR = (rets.take 12).map fewR ∧ w'.ownsRow w.heap.size 94 5 (.slice AD LD.length cD) LD.length (rc Db.cells LD) ∧ w'.ownsRow w.heap.size 97 4 (.slice AR LR.length cR) LR.length (rc Rn.cells LR) ∧ Below w.heap.size w w' := by
  have hNL : NU.length = 40 := by rw [hNU, List.length_take]; omega
  have h40i : (40 : Int) < (nums.length : Int) := by omega
  have hci : (40 : Int) ≤ (c1 : Int) := by omega
  obtain ⟨a1, ha1⟩ : ∃ a, A1 = some a := by
    obtain ⟨b, o, e, _⟩ := hs1.int (j := 0) (by omega)
    exact ⟨_, e⟩
  subst ha1
  unfold maxLen at hcm hdl hrl
  obtain ⟨q, hq⟩ : ∃ q, w.heap.size = q := ⟨_, rfl⟩
  have HQ := Lib.hid hq
  have HS : Hid (∀ V, Below q w V → (∀ k, (hk : k < debs.length) → ∃ p o, A2 = some ⟨p, o, none⟩ ∧ p < V.heap.size ∧ V.cell? ⟨p, o + k * 5, none⟩ = some (.int .i64 debs[k].a) ∧ V.cell? ⟨p, o + k * 5 + 1, none⟩ = some (.int .i64 debs[k].b) ∧ V.cell? ⟨p, o + k * 5 + 2, none⟩ = some (.int .i64 debs[k].c) ∧ V.cell? ⟨p, o + k * 5 + 3, none⟩ = some (.int .i64 debs[k].d) ∧ V.cell? ⟨p, o + k * 5 + 4, none⟩ = some (.int .i64 debs[k].q)) ∧ (∀ k, (hk : k < rets.length) → ∃ p o, A3 = some ⟨p, o, none⟩ ∧ p < V.heap.size ∧ V.cell? ⟨p, o + k * 4, none⟩ = some (.int .i64 rets[k].a) ∧ V.cell? ⟨p, o + k * 4 + 1, none⟩ = some (.int .i64 rets[k].b) ∧ V.cell? ⟨p, o + k * 4 + 2, none⟩ = some (.int .i64 rets[k].q) ∧ V.cell? ⟨p, o + k * 4 + 3, none⟩ = some (.slice rets[k].A rets[k].lots.length rets[k].c))) := Lib.hid fun V hV => by
    have hV2 : Below w.heap.size w V := by rw [hq]; exact hV
    refine ⟨fun k hk => ?_, fun k hk => ?_⟩
    · obtain ⟨p, o, e, hlt, hc⟩ := Sl.elem (m := 5) (fun x => rfl) (by decide) (hs2.below hV2) hk
      exact ⟨p, o, e, hlt, hc 0 _ rfl, hc 1 _ rfl, hc 2 _ rfl, hc 3 _ rfl, hc 4 _ rfl⟩
    · obtain ⟨p, o, e, hlt, hc⟩ := Sl.elem (m := 4) (fun x => rfl) (by decide) (hs3.below hV2) hk
      exact ⟨p, o, e, hlt, hc 0 _ rfl, hc 1 _ rfl, hc 2 _ rfl, hc 3 _ rfl⟩
  have HX : Hid (∀ k, (hk : k < rets.length) → rets[k].lots.length ≤ rets[k].c ∧ rets[k].c ≤ maxLen ∧ (20 < rets[k].lots.length → rets[k].A ≠ none)) := Lib.hid fun k hk => by
    obtain ⟨h1, h2, h3⟩ := hx _ (List.getElem_mem hk)
    refine ⟨h1, h2, fun h e => ?_⟩
    obtain ⟨b, o, e2, _⟩ := Sl.elem (m := 3) (fun x => rfl) (by decide) h3 (k := 0) (by omega)
    rw [e] at e2
    cases e2
  have hal1 := since_alloc (Below.refl _ w) (.cells #[.int .i64 er, .slice (some a1) nums.length c1, .slice A2 debs.length c2, .slice A3 rets.length c3] 50)
  have hal2 := since_alloc (Below.refl _ (w.alloc (.cells #[.int .i64 er, .slice (some a1) nums.length c1, .slice A2 debs.length c2, .slice A3 rets.length c3] 50))) (.cells #[.int .i64 0, .slice none 0 0, .slice none 0 0, .slice none 0 0] 50)
  have hal3 := since_alloc (Below.refl _ ((w.alloc (.cells #[.int .i64 er, .slice (some a1) nums.length c1, .slice A2 debs.length c2, .slice A3 rets.length c3] 50)).alloc (.cells #[.int .i64 0, .slice none 0 0, .slice none 0 0, .slice none 0 0] 50))) (.cells #[.int .i64 er, .slice (some a1) NU.length c1, .slice none 0 0, .slice none 0 0] 50)
  have x1 := heap_alloc_new w (.cells #[.int .i64 er, .slice (some a1) nums.length c1, .slice A2 debs.length c2, .slice A3 rets.length c3] 50)
  have x2 := heap_alloc_new (w.alloc (.cells #[.int .i64 er, .slice (some a1) nums.length c1, .slice A2 debs.length c2, .slice A3 rets.length c3] 50)) (.cells #[.int .i64 0, .slice none 0 0, .slice none 0 0, .slice none 0 0] 50)
  have x3 := heap_alloc_new ((w.alloc (.cells #[.int .i64 er, .slice (some a1) nums.length c1, .slice A2 debs.length c2, .slice A3 rets.length c3] 50)).alloc (.cells #[.int .i64 0, .slice none 0 0, .slice none 0 0, .slice none 0 0] 50)) (.cells #[.int .i64 er, .slice (some a1) NU.length c1, .slice none 0 0, .slice none 0 0] 50)
  have hz1 : (w.alloc (.cells #[.int .i64 er, .slice (some a1) nums.length c1, .slice A2 debs.length c2, .slice A3 rets.length c3] 50)).heap.size = q + 1 := by rw [World.size_alloc, hq]
  have hz2 : ((w.alloc (.cells #[.int .i64 er, .slice (some a1) nums.length c1, .slice A2 debs.length c2, .slice A3 rets.length c3] 50)).alloc (.cells #[.int .i64 0, .slice none 0 0, .slice none 0 0, .slice none 0 0] 50)).heap.size = q + 2 := by rw [World.size_alloc, hz1]
  have hz3 : (((w.alloc (.cells #[.int .i64 er, .slice (some a1) nums.length c1, .slice A2 debs.length c2, .slice A3 rets.length c3] 50)).alloc (.cells #[.int .i64 0, .slice none 0 0, .slice none 0 0, .slice none 0 0] 50)).alloc (.cells #[.int .i64 er, .slice (some a1) NU.length c1, .slice none 0 0, .slice none 0 0] 50)).heap.size = q + 3 := by rw [World.size_alloc, hz2]
  rw [hz1] at hal2
  rw [hz2] at hal3
  rw [hq] at hal1 x1
  rw [hz1] at x2
  rw [hz2] at x3
  have x2 := (hal3.block (q + 1) (by omega)).trans x2
  have x1 := (hal3.block q (by omega)).trans ((hal2.block q (by omega)).trans x1)
  have hB3 : Below q w (((w.alloc (.cells #[.int .i64 er, .slice (some a1) nums.length c1, .slice A2 debs.length c2, .slice A3 rets.length c3] 50)).alloc (.cells #[.int .i64 0, .slice none 0 0, .slice none 0 0, .slice none 0 0] 50)).alloc (.cells #[.int .i64 er, .slice (some a1) NU.length c1, .slice none 0 0, .slice none 0 0] 50)) := hal1.trans ((hal2.mono (Nat.le_succ _)).trans (hal3.mono (by omega)))
  obtain ⟨W3, hW3⟩ : ∃ W3, ((w.alloc (.cells #[.int .i64 er, .slice (some a1) nums.length c1, .slice A2 debs.length c2, .slice A3 rets.length c3] 50)).alloc (.cells #[.int .i64 0, .slice none 0 0, .slice none 0 0, .slice none 0 0] 50)).alloc (.cells #[.int .i64 er, .slice (some a1) NU.length c1, .slice none 0 0, .slice none 0 0] 50) = W3 := ⟨_, rfl⟩
  rw [hW3] at x1 x2 x3 hz3 hB3
  have HXB : Hid (∀ V, Chg (q + 2) none W3 V → V.heap[q]? = some (.cells #[.int .i64 er, .slice (some a1) nums.length c1, .slice A2 debs.length c2, .slice A3 rets.length c3] 50 (0, 0)) ∧ V.heap[q + 1]? = some (.cells #[.int .i64 0, .slice none 0 0, .slice none 0 0, .slice none 0 0] 50 (0, 0)) ∧ Below q w V ∧ q + 3 ≤ V.heap.size) := Lib.hid fun V hC =>
    ⟨(hC.block q (by omega) (by omega) (fun e => by cases e)).trans x1, (hC.block (q + 1) (by omega) (by omega) (fun e => by cases e)).trans x2, hB3.trans (hC.anyG (by omega) (by omega)), by have := hC.size; omega⟩
  have HW3 := Lib.hid hW3
  have HX3 := Lib.hid x3
  have HZ3 := Lib.hid hz3
  have HNL := Lib.hid hNL
  have HHN := Lib.hid hNU
  clear hs1 hs2 hs3 hx hal1 hal2 hal3 x1 x2 x3 hz1 hz2 hz3 hB3 hW3 hNL hNU
  rw [hq]
  clear hq
  go_enter Try.func19, Try.ntmps19
  go_upto_region 4 with fail
  rw [HQ.out]
  have HW4 : Hid (((w.alloc (.cells #[.int .i64 er, .slice (some a1) nums.length c1, .slice A2 debs.length c2, .slice A3 rets.length c3] 50)).alloc (.cells #[.int .i64 0, .slice none 0 0, .slice none 0 0, .slice none 0 0] 50)).alloc (.cells #[.int .i64 er, .slice (some a1) 40 c1, .slice none 0 0, .slice none 0 0] 50) = W3) := Lib.hid (by have h := HW3.out; rw [HNL.out] at h; exact h)
  rw [show q + 1 + 1 = q + 2 from rfl, HW4.out]
  have HX4 : Hid (W3.heap[q + 2]? = some (.cells #[.int .i64 er, .slice (some a1) NU.length c1, .slice none 0 0, .slice none 0 0] 50 (0, 0))) := HX3
  clear HW3 HW4 HX3 h40i hci
  go_wp2_with fail
  go_loopw [4, 5] (fun iv xv wr => ∃ (k : Nat) (LD : List Db) (LR : List Rn) (AD : Option Addr) (cD : Nat) (AR : Option Addr) (cR : Nat), k ≤ 12 ∧ iv = .int .i64 (k : Int) ∧ LD = debs.take k ∧ LR = (rets.take k).map fewR ∧ wr.heap[q + 2]? = some (.cells #[.int .i64 er, .slice (some a1) NU.length c1, .slice AD LD.length cD, .slice AR LR.length cR] 50 (0, 0)) ∧ wr.ownsRow (q + 3) 94 5 (.slice AD LD.length cD) LD.length (rc Db.cells LD) ∧ wr.ownsRow (q + 3) 97 4 (.slice AR LR.length cR) LR.length (rc Rn.cells LR) ∧ Chg (q + 2) none W3 wr) (fun iv _ _ => 12 - (intOf iv).toNat)
  case atStart => exact ⟨0, [], [], none, 0, none, 0, by omega, rfl, rfl, rfl, HX4.out, own_nil _ _ _, own_nil _ _ _, Chg.refl _ _ _⟩
  case round =>
    clear HX4
    obtain ⟨k, LD, LR, AD, cD, AR, cR, hk, rfl, hLD, hLR, hb3, hod, hor, hC⟩ := hrel
    obtain ⟨x1, x2, hBq, hsz⟩ := HXB.out wr hC
    by_cases hk12 : k < 12
    · have hk1 : (k : Int) < (12 : Int) := by omega
      have hk0 : (0 : Int) ≤ (k : Int) := by omega
      have hLDl : LD.length ≤ 12 := by rw [hLD, List.length_take]; omega
      have hLRl : LR.length ≤ 12 := by rw [hLR, List.length_map, List.length_take]; omega
      have HLD := Lib.hid hLD
      have HLR := Lib.hid hLR
      clear hLD hLR x2 hsz
      by_cases hkd : k < debs.length
      · have hkd1 : (k : Int) < (debs.length : Int) := by omega
        obtain ⟨q2, _⟩ := HS.out wr hBq
        obtain ⟨p2, o2, hA2, _, _⟩ := q2 k hkd
        have HTD : Hid (debs.take (k + 1) = LD ++ [debs[k]]) := Lib.hid (by rw [take_snoc debs k hkd, ← HLD.out])
        have HE : Hid (∀ V, Below q w V → ∃ p o, A2 = some ⟨p, o, none⟩ ∧ p < V.heap.size ∧ V.cell? ⟨p, o + k * 5, none⟩ = some (.int .i64 debs[k].a) ∧ V.cell? ⟨p, o + k * 5 + 1, none⟩ = some (.int .i64 debs[k].b) ∧ V.cell? ⟨p, o + k * 5 + 2, none⟩ = some (.int .i64 debs[k].c) ∧ V.cell? ⟨p, o + k * 5 + 3, none⟩ = some (.int .i64 debs[k].d) ∧ V.cell? ⟨p, o + k * 5 + 4, none⟩ = some (.int .i64 debs[k].q)) := Lib.hid fun V hV => (HS.out V hV).1 k hkd
        obtain ⟨x, hxe⟩ : ∃ x, debs[k] = x := ⟨_, rfl⟩
        rw [hxe] at HTD HE
        obtain ⟨xa, xb, xc, xd, xq⟩ := x
        subst hA2
        have HC := Lib.hid hC
        have HF : Hid (∀ V, Chg (q + 2) none W3 V → V.cell? ⟨q, 2, none⟩ = some (.slice (some ⟨p2, o2, none⟩) debs.length c2) ∧ q < V.heap.size ∧ p2 < V.heap.size ∧ V.cell? ⟨p2, o2 + k * 5, none⟩ = some (.int .i64 xa) ∧ V.cell? ⟨p2, o2 + k * 5 + 1, none⟩ = some (.int .i64 xb) ∧ V.cell? ⟨p2, o2 + k * 5 + 2, none⟩ = some (.int .i64 xc) ∧ V.cell? ⟨p2, o2 + k * 5 + 3, none⟩ = some (.int .i64 xd) ∧ V.cell? ⟨p2, o2 + k * 5 + 4, none⟩ = some (.int .i64 xq)) := Lib.hid fun V hV => by
          obtain ⟨x1, x2, hB, _⟩ := HXB.out V hV
          obtain ⟨p, o, e, hl, h0, h1, h2, h3, h4⟩ := HE.out V hB
          injection e with e
          injection e with e1 e2 _
          subst e1; subst e2
          exact ⟨(cell_of_row V q 2 _ _ (0, 0) x1).trans rfl, (Array.getElem?_eq_some_iff.1 x1).1, hl, h0, h1, h2, h3, h4⟩
        have HOD := Lib.hid hod
        have HOR := Lib.hid hor
        have HB3 := Lib.hid hb3
        have HSZ : Hid (q + 3 ≤ wr.heap.size) := Lib.hid (HXB.out wr hC).2.2.2
        clear q2 hxe hod hor hC hBq HE
        have i2 : wr.cell? ⟨q, 2, none⟩ = some (.slice (some ⟨p2, o2, none⟩) debs.length c2) := (cell_of_row wr (q) 2 _ _ (0, 0) x1).trans rfl
        have fi2 : wr.frozen? ⟨q, 2, none⟩ = false := by simp [World.frozen?, x1]
        have il : q < wr.heap.size := (Array.getElem?_eq_some_iff.1 x1).1
        clear x1
        go_upto_region 8 with fail
        clear i2 fi2 il
        clear hb3
        go_cut [] (fun wx => ∃ (LE : List Db) (AE : Option Addr) (cE : Nat), LE = debs.take (k + 1) ∧ wx.heap[q + 2]? = some (.cells #[.int .i64 er, .slice (some a1) NU.length c1, .slice AE LE.length cE, .slice AR LR.length cR] 50 (0, 0)) ∧ wx.ownsRow (q + 3) 94 5 (.slice AE LE.length cE) LE.length (rc Db.cells LE) ∧ wx.ownsRow (q + 3) 97 4 (.slice AR LR.length cR) LR.length (rc Rn.cells LR) ∧ Chg (q + 2) none W3 wx)
        case first =>
          refine wp_region_held_drew (S := (fun V => Chg (q + 2) none W3 V)) (by kernel_rfl) (by exact (HC.out.trans (Chg.of_below (Below.refl _ wr).drew) (.inl rfl))) (fun hHeld => ?_)
          have hdr : Below wr.heap.size wr wr.drew := (Below.refl _ wr).drew
          generalize wr.drew = wd at hHeld hdr ⊢
          have HDR := Lib.hid hdr
          clear hdr
          refine wpAnyH_take (i := 0) (oi := { dst := some 28, op := _, type := _, pos := _, after := _, guard := _ }) (v := ?_) rfl (by kernel_rfl) (by kernel_rfl) (by kernel_rfl) (fun _ _ _ h => h) (Or.inl ⟨by rfl, ?_⟩) hHeld ?_
          rotate_left
          · (intro w hSw; clear hSw; go_simp <;> with_reducible rfl)
          try simp only [Act.put, List.setIfInBounds_toArray, List.set_cons_zero, List.set_cons_succ]
          refine wpAnyH_take (i := 2) (oi := { dst := some 30, op := _, type := _, pos := _, after := _, guard := _ }) (v := ?_) rfl (by kernel_rfl) (by kernel_rfl) (by kernel_rfl) (fun _ _ _ h => h) (Or.inl ⟨by rfl, ?_⟩) hHeld ?_
          rotate_left
          · (intro w hSw; clear hSw; go_simp <;> with_reducible rfl)
          try simp only [Act.put, List.setIfInBounds_toArray, List.set_cons_zero, List.set_cons_succ]
          refine wpAnyH_take (i := 3) (oi := { dst := some 31, op := _, type := _, pos := _, after := _, guard := _ }) (v := ?_) rfl (by kernel_rfl) (by kernel_rfl) (by kernel_rfl) (fun _ _ _ h => h) (Or.inl ⟨by rfl, ?_⟩) hHeld ?_
          rotate_left
          · (intro w hSw; obtain ⟨t0, tl, tp, t1, t2, t3, t4, t5⟩ := HF.out _ (hSw); go_simp <;> with_reducible rfl)
          try simp only [Act.put, List.setIfInBounds_toArray, List.set_cons_zero, List.set_cons_succ]
          refine wpAnyH_take (i := 4) (oi := { dst := some 32, op := _, type := _, pos := _, after := _, guard := _ }) (v := ?_) rfl (by kernel_rfl) (by kernel_rfl) (by kernel_rfl) (fun _ _ _ h => h) (Or.inl ⟨by rfl, ?_⟩) hHeld ?_
          rotate_left
          · (intro w hSw; clear hSw; go_simp <;> with_reducible rfl)
          try simp only [Act.put, List.setIfInBounds_toArray, List.set_cons_zero, List.set_cons_succ]
          refine wpAnyH_take (i := 5) (oi := { dst := some 33, op := _, type := _, pos := _, after := _, guard := _ }) (v := ?_) rfl (by kernel_rfl) (by kernel_rfl) (by kernel_rfl) (fun _ _ _ h => h) (Or.inl ⟨by rfl, ?_⟩) hHeld ?_
          rotate_left
          · (intro w hSw; clear hSw; go_simp <;> with_reducible rfl)
          try simp only [Act.put, List.setIfInBounds_toArray, List.set_cons_zero, List.set_cons_succ]
          refine wpAnyH_take (i := 6) (oi := { dst := some 34, op := _, type := _, pos := _, after := _, guard := _ }) (v := ?_) rfl (by kernel_rfl) (by kernel_rfl) (by kernel_rfl) (fun _ _ _ h => h) (Or.inl ⟨by rfl, ?_⟩) hHeld ?_
          rotate_left
          · (intro w hSw; obtain ⟨t0, tl, tp, t1, t2, t3, t4, t5⟩ := HF.out _ (hSw); go_simp <;> with_reducible rfl)
          try simp only [Act.put, List.setIfInBounds_toArray, List.set_cons_zero, List.set_cons_succ]
          refine wpAnyH_ready (rs := [1, 7]) (by kernel_rfl) (by simp) ?_
          refine AllReadyH.cons (o := { dst := some 29, op := _, type := _, pos := _, after := _, guard := _ }) rfl (fun K hK => ?_) (AllReadyH.cons (o := { dst := some 35, op := _, type := _, pos := _, after := _, guard := _ }) rfl (fun K hK => ?_) AllReadyH.nil)
          · have hHd := hHeld
            obtain ⟨t0, tl, tp, t1, t2, t3, t4, t5⟩ := HF.out _ (hHd)
            have hKeep := hHeld
            have hb30 : wd.heap[q + 2]? = some (.cells #[.int .i64 er, .slice (some a1) NU.length c1, .slice AD LD.length cD, .slice AR LR.length cR] 50 (0, 0)) := ((HDR.out.block (q + 2) (by have := HSZ.out; omega)).trans HB3.out)
            have k2 : wd.cell? ⟨q + 2, 2, none⟩ = some (.slice AD LD.length cD) := (cell_of_row wd (q + 2) 2 _ _ (0, 0) hb30).trans rfl
            have kl : q + 2 < wd.heap.size := (Array.getElem?_eq_some_iff.1 hb30).1
            go_simp
            refine hK.out _ _ (by (try dsimp only); exact hKeep) (fun hHeld => ?_)
            clear hK K hKeep
            try simp only [Act.put, List.setIfInBounds_toArray, List.set_cons_zero, List.set_cons_succ]
            refine wpAnyH_ready (rs := [7]) (by kernel_rfl) (by simp) ?_
            refine AllReadyH.cons (o := { dst := some 35, op := _, type := _, pos := _, after := _, guard := _ }) rfl (fun K hK => ?_) AllReadyH.nil
            have hHd := hHeld
            obtain ⟨t0, tl, tp, t1, t2, t3, t4, t5⟩ := HF.out _ (hHd)
            have hal6 := since_alloc (Below.refl _ wd) (.cells #[.int .i64 xa, .int .i64 xb, .int .i64 xc, .int .i64 xd, .int .i64 xq] 94)
            have hdr := HDR.out
            have hKeep : Chg (q + 2) none W3 (wd.alloc (.cells #[.int .i64 xa, .int .i64 xb, .int .i64 xc, .int .i64 xd, .int .i64 xq] 94)) := hHeld.trans (Chg.of_below hal6) (.inl rfl)
            have hb31 : (wd.alloc (.cells #[.int .i64 xa, .int .i64 xb, .int .i64 xc, .int .i64 xd, .int .i64 xq] 94)).heap[q + 2]? = some (.cells #[.int .i64 er, .slice (some a1) NU.length c1, .slice AD LD.length cD, .slice AR LR.length cR] 50 (0, 0)) := (hal6.block (q + 2) (by have := HSZ.out; have := hdr.size; omega)).trans ((hdr.block (q + 2) (by have := HSZ.out; omega)).trans HB3.out)
            have hod1 := own_below (own_below HOD.out hdr) hal6
            have hor1 := own_below (own_below HOR.out hdr) hal6
            have hC1 := hKeep
            clear hal6 hdr
            go_simp
            refine hK.out _ _ (by (try dsimp only); exact hKeep) (fun hHeld => ?_)
            clear hK K hKeep
            try simp only [Act.put, List.setIfInBounds_toArray, List.set_cons_zero, List.set_cons_succ]
            refine wpAnyH_ready (rs := [8]) (by kernel_rfl) (by simp) ?_
            refine AllReadyH.cons (o := { dst := some 36, op := _, type := _, pos := _, after := _, guard := _ }) rfl (fun K hK => ?_) AllReadyH.nil
            refine step_app rfl (.tmp 29) (.tmp 35) rfl EDb34 (n := LD.length) (m := 1) (c := cD) (d := 1) (A := AD) (B := some ⟨wd.heap.size, 0, none⟩) (by simp [Act.eval, Act.put]; done) (by simp [Act.eval, Act.put]; done) hod1 (news := [.int .i64 xa, .int .i64 xb, .int .i64 xc, .int .i64 xd, .int .i64 xq]) rfl (Sl.new_ _ _ _) (fun z hz => by simp only [List.mem_cons, List.not_mem_nil, or_false] at hz; rcases hz with rfl | rfl | rfl | rfl | rfl <;> rfl) (by unfold maxLen; omega) (by omega) (by have := hC1.size; have := HZ3.out; omega) ?_
            intro A8 c8 w8 own8 hg8 hb8
            have hKeep : Chg (q + 2) none W3 w8 := hC1.thenB hb8 (by have := HZ3.out; omega)
            have hb38 := (hb8.block (q + 2) (by omega)).trans hb31
            have hor8 := own_kept_types (by decide) hor1 hod1 hg8
            have hC8 := hKeep
            have kv8 : w8.cell? ⟨q + 2, 2, none⟩ = some (.slice AD LD.length cD) := (cell_of_row w8 (q + 2) 2 _ _ (0, 0) hb38).trans rfl
            have fk8 : w8.frozen? ⟨q + 2, 2, none⟩ = false := by simp [World.frozen?, hb38]
            have hbl8 : q + 2 < w8.heap.size := (Array.getElem?_eq_some_iff.1 hb38).1
            refine hK.out _ _ (by (try dsimp only); exact hKeep) (fun hHeld => ?_)
            clear hK K hKeep
            try simp only [Act.put, List.setIfInBounds_toArray, List.set_cons_zero, List.set_cons_succ]
            refine wpAnyH_take (i := 9) (oi := { dst := some 37, op := _, type := _, pos := _, after := _, guard := _ }) (v := ?_) rfl (by kernel_rfl) (by kernel_rfl) (by kernel_rfl) (fun _ _ _ h => h) (Or.inl ⟨by rfl, ?_⟩) hHeld ?_
            rotate_left
            · (intro w hSw; clear hSw; go_simp <;> with_reducible rfl)
            try simp only [Act.put, List.setIfInBounds_toArray, List.set_cons_zero, List.set_cons_succ]
            refine wpAnyH_ready (rs := [10]) (by kernel_rfl) (by simp) ?_
            refine AllReadyH.cons (o := { dst := none, op := _, type := _, pos := _, after := _, guard := _ }) rfl (fun K hK => ?_) AllReadyH.nil
            have hHd := hHeld
            obtain ⟨t0, tl, tp, t1, t2, t3, t4, t5⟩ := HF.out _ (hHd)
            have hKeep : Chg (q + 2) none W3 (w8.setCell ⟨q + 2, 2, none⟩ (.slice A8 (LD.length + 1) c8)) := hC8.trans (Chg.set (g := q + 2) (row := none) 2 (.slice A8 (LD.length + 1) c8)) (.inl rfl)
            have hb39 := setb34 2 (.slice A8 (LD.length + 1) c8) hb38
            have own9 := own_box34 own8 hb38 (by decide) 2 (.slice A8 (LD.length + 1) c8)
            have hor9 := own_box34 hor8 hb38 (by decide) 2 (.slice A8 (LD.length + 1) c8)
            have hC9 := hKeep
            skip
            go_simp
            refine hK.out _ _ (by (try dsimp only); exact hKeep) (fun hHeld => ?_)
            clear hK K hKeep
            try simp only [Act.put, List.setIfInBounds_toArray, List.set_cons_zero, List.set_cons_succ]
            refine wpAnyH_done (by kernel_rfl) ?_ _
            go_wp2_with fail
            go_meet
            case rel =>
              have hll : LD.length + 1 = (LD ++ [(⟨xa, xb, xc, xd, xq⟩ : Db)]).length := by rw [List.length_append]; rfl
              have hce : rc Db.cells LD ++ [.int .i64 xa, .int .i64 xb, .int .i64 xc, .int .i64 xd, .int .i64 xq] = rc Db.cells (LD ++ [(⟨xa, xb, xc, xd, xq⟩ : Db)]) := by rw [rc_snoc34]; rfl
              refine ⟨LD ++ [⟨xa, xb, xc, xd, xq⟩], A8, c8, HTD.out.symm, ?_, ?_, hor9, hC9⟩
              · rw [← hll]; exact hb39
              · rw [← hll, ← hce]; exact own9
          · have hHd := hHeld
            obtain ⟨t0, tl, tp, t1, t2, t3, t4, t5⟩ := HF.out _ (hHd)
            have hal6 := since_alloc (Below.refl _ wd) (.cells #[.int .i64 xa, .int .i64 xb, .int .i64 xc, .int .i64 xd, .int .i64 xq] 94)
            have hdr := HDR.out
            have hKeep : Chg (q + 2) none W3 (wd.alloc (.cells #[.int .i64 xa, .int .i64 xb, .int .i64 xc, .int .i64 xd, .int .i64 xq] 94)) := hHeld.trans (Chg.of_below hal6) (.inl rfl)
            have hb31 : (wd.alloc (.cells #[.int .i64 xa, .int .i64 xb, .int .i64 xc, .int .i64 xd, .int .i64 xq] 94)).heap[q + 2]? = some (.cells #[.int .i64 er, .slice (some a1) NU.length c1, .slice AD LD.length cD, .slice AR LR.length cR] 50 (0, 0)) := (hal6.block (q + 2) (by have := HSZ.out; have := hdr.size; omega)).trans ((hdr.block (q + 2) (by have := HSZ.out; omega)).trans HB3.out)
            have hod1 := own_below (own_below HOD.out hdr) hal6
            have hor1 := own_below (own_below HOR.out hdr) hal6
            have hC1 := hKeep
            clear hal6 hdr
            go_simp
            refine hK.out _ _ (by (try dsimp only); exact hKeep) (fun hHeld => ?_)
            clear hK K hKeep
            try simp only [Act.put, List.setIfInBounds_toArray, List.set_cons_zero, List.set_cons_succ]
            refine wpAnyH_ready (rs := [1]) (by kernel_rfl) (by simp) ?_
            refine AllReadyH.cons (o := { dst := some 29, op := _, type := _, pos := _, after := _, guard := _ }) rfl (fun K hK => ?_) AllReadyH.nil
            have hHd := hHeld
            obtain ⟨t0, tl, tp, t1, t2, t3, t4, t5⟩ := HF.out _ (hHd)
            have hKeep := hHeld
            have hb30 : (wd.alloc (.cells #[.int .i64 xa, .int .i64 xb, .int .i64 xc, .int .i64 xd, .int .i64 xq] 94)).heap[q + 2]? = some (.cells #[.int .i64 er, .slice (some a1) NU.length c1, .slice AD LD.length cD, .slice AR LR.length cR] 50 (0, 0)) := hb31
            have k2 : (wd.alloc (.cells #[.int .i64 xa, .int .i64 xb, .int .i64 xc, .int .i64 xd, .int .i64 xq] 94)).cell? ⟨q + 2, 2, none⟩ = some (.slice AD LD.length cD) := (cell_of_row (wd.alloc (.cells #[.int .i64 xa, .int .i64 xb, .int .i64 xc, .int .i64 xd, .int .i64 xq] 94)) (q + 2) 2 _ _ (0, 0) hb30).trans rfl
            have kl : q + 2 < (wd.alloc (.cells #[.int .i64 xa, .int .i64 xb, .int .i64 xc, .int .i64 xd, .int .i64 xq] 94)).heap.size := (Array.getElem?_eq_some_iff.1 hb30).1
            go_simp
            refine hK.out _ _ (by (try dsimp only); exact hKeep) (fun hHeld => ?_)
            clear hK K hKeep
            try simp only [Act.put, List.setIfInBounds_toArray, List.set_cons_zero, List.set_cons_succ]
            refine wpAnyH_ready (rs := [8]) (by kernel_rfl) (by simp) ?_
            refine AllReadyH.cons (o := { dst := some 36, op := _, type := _, pos := _, after := _, guard := _ }) rfl (fun K hK => ?_) AllReadyH.nil
            refine step_app rfl (.tmp 29) (.tmp 35) rfl EDb34 (n := LD.length) (m := 1) (c := cD) (d := 1) (A := AD) (B := some ⟨wd.heap.size, 0, none⟩) (by simp [Act.eval, Act.put]; done) (by simp [Act.eval, Act.put]; done) hod1 (news := [.int .i64 xa, .int .i64 xb, .int .i64 xc, .int .i64 xd, .int .i64 xq]) rfl (Sl.new_ _ _ _) (fun z hz => by simp only [List.mem_cons, List.not_mem_nil, or_false] at hz; rcases hz with rfl | rfl | rfl | rfl | rfl <;> rfl) (by unfold maxLen; omega) (by omega) (by have := hC1.size; have := HZ3.out; omega) ?_
            intro A8 c8 w8 own8 hg8 hb8
            have hKeep : Chg (q + 2) none W3 w8 := hC1.thenB hb8 (by have := HZ3.out; omega)
            have hb38 := (hb8.block (q + 2) (by omega)).trans hb31
            have hor8 := own_kept_types (by decide) hor1 hod1 hg8
            have hC8 := hKeep
            have kv8 : w8.cell? ⟨q + 2, 2, none⟩ = some (.slice AD LD.length cD) := (cell_of_row w8 (q + 2) 2 _ _ (0, 0) hb38).trans rfl
            have fk8 : w8.frozen? ⟨q + 2, 2, none⟩ = false := by simp [World.frozen?, hb38]
            have hbl8 : q + 2 < w8.heap.size := (Array.getElem?_eq_some_iff.1 hb38).1
            refine hK.out _ _ (by (try dsimp only); exact hKeep) (fun hHeld => ?_)
            clear hK K hKeep
            try simp only [Act.put, List.setIfInBounds_toArray, List.set_cons_zero, List.set_cons_succ]
            refine wpAnyH_take (i := 9) (oi := { dst := some 37, op := _, type := _, pos := _, after := _, guard := _ }) (v := ?_) rfl (by kernel_rfl) (by kernel_rfl) (by kernel_rfl) (fun _ _ _ h => h) (Or.inl ⟨by rfl, ?_⟩) hHeld ?_
            rotate_left
            · (intro w hSw; clear hSw; go_simp <;> with_reducible rfl)
            try simp only [Act.put, List.setIfInBounds_toArray, List.set_cons_zero, List.set_cons_succ]
            refine wpAnyH_ready (rs := [10]) (by kernel_rfl) (by simp) ?_
            refine AllReadyH.cons (o := { dst := none, op := _, type := _, pos := _, after := _, guard := _ }) rfl (fun K hK => ?_) AllReadyH.nil
            have hHd := hHeld
            obtain ⟨t0, tl, tp, t1, t2, t3, t4, t5⟩ := HF.out _ (hHd)
            have hKeep : Chg (q + 2) none W3 (w8.setCell ⟨q + 2, 2, none⟩ (.slice A8 (LD.length + 1) c8)) := hC8.trans (Chg.set (g := q + 2) (row := none) 2 (.slice A8 (LD.length + 1) c8)) (.inl rfl)
            have hb39 := setb34 2 (.slice A8 (LD.length + 1) c8) hb38
            have own9 := own_box34 own8 hb38 (by decide) 2 (.slice A8 (LD.length + 1) c8)
            have hor9 := own_box34 hor8 hb38 (by decide) 2 (.slice A8 (LD.length + 1) c8)
            have hC9 := hKeep
            skip
            go_simp
            refine hK.out _ _ (by (try dsimp only); exact hKeep) (fun hHeld => ?_)
            clear hK K hKeep
            try simp only [Act.put, List.setIfInBounds_toArray, List.set_cons_zero, List.set_cons_succ]
            refine wpAnyH_done (by kernel_rfl) ?_ _
            go_wp2_with fail
            go_meet
            case rel =>
              have hll : LD.length + 1 = (LD ++ [(⟨xa, xb, xc, xd, xq⟩ : Db)]).length := by rw [List.length_append]; rfl
              have hce : rc Db.cells LD ++ [.int .i64 xa, .int .i64 xb, .int .i64 xc, .int .i64 xd, .int .i64 xq] = rc Db.cells (LD ++ [(⟨xa, xb, xc, xd, xq⟩ : Db)]) := by rw [rc_snoc34]; rfl
              refine ⟨LD ++ [⟨xa, xb, xc, xd, xq⟩], A8, c8, HTD.out.symm, ?_, ?_, hor9, hC9⟩
              · rw [← hll]; exact hb39
              · rw [← hll, ← hce]; exact own9
        case rest =>
          clear HF HOD HB3 HC HTD HSZ
          obtain ⟨LE, AE, cE, hLE, hb3, hod, hor, hC⟩ := hcut
          have HLDN := Lib.hid hLE
          clear hLE HOR
          have HC := Lib.hid hC
          have HOD := Lib.hid hod
          have HOR := Lib.hid hor
          have HB3 := Lib.hid hb3
          obtain ⟨x1, x2, hBq, hsz⟩ := HXB.out wc hC
          clear x2 hC hod hor
          by_cases hkr : k < rets.length
          · have hkr1 : (k : Int) < (rets.length : Int) := by omega
            obtain ⟨_, q3⟩ := HS.out wc hBq
            obtain ⟨p3, o3, hA3, p3l, e0, e1, e2, e3⟩ := q3 k hkr
            obtain ⟨hxc, hxm, hxn⟩ := HX.out k hkr
            have HTK : Hid ((rets.take (k + 1)).map fewR = LR ++ [fewR rets[k]]) := Lib.hid (by rw [take_snoc rets k hkr, List.map_append, ← HLR.out]; rfl)
            clear q3 hBq
            obtain ⟨x, hxe⟩ : ∃ x, rets[k] = x := ⟨_, rfl⟩
            rw [hxe] at e0 e1 e2 e3 hxc hxm hxn HTK
            obtain ⟨xa, xb, xq, xA, xc, xl⟩ := x
            simp only at e0 e1 e2 e3 hxc hxm hxn
            subst hA3
            have i2 : wc.cell? ⟨q, 2, none⟩ = some (.slice (some ⟨p2, o2, none⟩) debs.length c2) := (cell_of_row wc (q) 2 _ _ (0, 0) x1).trans rfl
            have fi2 : wc.frozen? ⟨q, 2, none⟩ = false := by simp [World.frozen?, x1]
            have i3 : wc.cell? ⟨q, 3, none⟩ = some (.slice (some ⟨p3, o3, none⟩) rets.length c3) := (cell_of_row wc (q) 3 _ _ (0, 0) x1).trans rfl
            have fi3 : wc.frozen? ⟨q, 3, none⟩ = false := by simp [World.frozen?, x1]
            have il : q < wc.heap.size := (Array.getElem?_eq_some_iff.1 x1).1
            have HFW := Lib.hid (few18w xA xl.length xc ((wc.alloc (.cells #[.int .i64 xa, .int .i64 xb, .int .i64 xq, .slice xA xl.length xc] 97))) hxc hxm hxn)
            clear hxe x1
            have b3 : wc.cell? ⟨q + 2, 3, none⟩ = some (.slice AR LR.length cR) := (cell_of_row wc (q + 2) 3 _ _ (0, 0) hb3).trans rfl
            have fb3 : wc.frozen? ⟨q + 2, 3, none⟩ = false := by simp [World.frozen?, hb3]
            have bl : q + 2 < wc.heap.size := (Array.getElem?_eq_some_iff.1 hb3).1
            clear hb3 hxc hxm hxn
            go_wp2_with fail
            refine HFW.out.mono ?_
            rintro e y ⟨rfl, rfl⟩
            obtain ⟨M, hM⟩ : ∃ M, xl.take 20 = M := ⟨_, rfl⟩
            have hml : min xl.length 20 = M.length := by rw [← hM, List.length_take]; omega
            have HM := Lib.hid hM
            rw [hml]
            have HOR2 := Lib.hid ((HOR.out.alloc (.cells #[.int .i64 xa, .int .i64 xb, .int .i64 xq, .slice xA M.length xc] 97)).alloc (.cells #[.int .i64 xa, .int .i64 xb, .int .i64 xq, .slice xA M.length xc] 97))
            have hor2 := HOR2.out
            have HSZ : Hid (q + 3 ≤ wc.heap.size) := Lib.hid hsz
            have hu1 := since_alloc (Below.refl _ wc) (.cells #[.int .i64 xa, .int .i64 xb, .int .i64 xq, .slice xA M.length xc] 97)
            have hu2 := since_alloc (Below.refl _ (wc.alloc (.cells #[.int .i64 xa, .int .i64 xb, .int .i64 xq, .slice xA M.length xc] 97))) (.cells #[.int .i64 xa, .int .i64 xb, .int .i64 xq, .slice xA M.length xc] 97)
            have HU := Lib.hid (since_step hu1 hu2)
            clear hml hM hu1 hu2 HFW e0 e1 e2 e3 hsz
            go_wp2_with (first
              | (at_builtin; refine wpList_app rfl (.tmp 53) (.tmp 55) rfl ERn34 rfl rfl hor2 (m := 1) (news := [.int .i64 xa, .int .i64 xb, .int .i64 xq, .slice xA M.length xc]) rfl (Sl.new1 _ _ _ _) (fun z hz => by simp only [List.mem_cons, List.not_mem_nil, or_false] at hz; rcases hz with rfl | rfl | rfl | rfl <;> rfl) (by unfold maxLen; omega) (by omega) (by simp only [World.size_alloc]; have := HSZ.out; omega) ?_; intro A7 c7 w7 own7 hg7 hb7; have hB67 : Below (q + 3) wc w7 := (HU.out.mono HSZ.out).trans hb7; have hb8 := (hB67.block (q + 2) (by omega)).trans HB3.out; have b3 : w7.cell? ⟨q + 2, 2 + 1, none⟩ = some (.slice AR LR.length cR) := (cell_of_row w7 (q + 2) 3 _ _ (0, 0) hb8).trans rfl; have fb3 : w7.frozen? ⟨q + 2, 2 + 1, none⟩ = false := (by simp [World.frozen?, hb8]); have bl : q + 2 < w7.heap.size := (Array.getElem?_eq_some_iff.1 hb8).1; have HB8 := Lib.hid hb8; have HG7 := Lib.hid hg7; have HB67 := Lib.hid hB67; have HO7 := Lib.hid own7; clear hb8 hg7 hB67 hb7 own7)
              | fail)
            have hb9 := setb34 3 (.slice A7 (LR.length + 1) c7) HB8.out
            have hu1 := since_alloc (Below.refl _ wc) (.cells #[.int .i64 xa, .int .i64 xb, .int .i64 xq, .slice xA M.length xc] 97)
            have hu2 := since_alloc (Below.refl _ (wc.alloc (.cells #[.int .i64 xa, .int .i64 xb, .int .i64 xq, .slice xA M.length xc] 97))) (.cells #[.int .i64 xa, .int .i64 xb, .int .i64 xq, .slice xA M.length xc] 97)
            have hod8 := own_kept_types (by decide) (own_below HOD.out HU.out) HOR2.out HG7.out
            have hod9 := own_box34 hod8 HB8.out (by decide) 3 (.slice A7 (LR.length + 1) c7)
            have hor9 := own_box34 HO7.out HB8.out (by decide) 3 (.slice A7 (LR.length + 1) c7)
            have hC9 : Chg (q + 2) none W3 (w7.setCell ⟨q + 2, 3, none⟩ (.slice A7 (LR.length + 1) c7)) := (HC.out.thenB HB67.out (by have := HZ3.out; omega)).trans (Chg.set (g := q + 2) (row := none) 3 (.slice A7 (LR.length + 1) c7)) (.inl rfl)
            have hll : LR.length + 1 = (LR ++ [(⟨xa, xb, xq, xA, xc, M⟩ : Rn)]).length := by rw [List.length_append]; rfl
            have hce : rc Rn.cells LR ++ [.int .i64 xa, .int .i64 xb, .int .i64 xq, .slice xA M.length xc] = rc Rn.cells (LR ++ [(⟨xa, xb, xq, xA, xc, M⟩ : Rn)]) := by rw [rc_snoc34]; rfl
            have hfin : LR ++ [(⟨xa, xb, xq, xA, xc, M⟩ : Rn)] = (rets.take (k + 1)).map fewR := by rw [HTK.out, ← HM.out]; rfl
            go_roundw
            case rel =>
              refine ⟨k + 1, LE, LR ++ [⟨xa, xb, xq, xA, xc, M⟩], AE, cE, A7, c7, by omega, by go_num, HLDN.out, hfin, ?_, hod9, ?_, hC9⟩
              · rw [← hll]; exact hb9
              · rw [← hll, ← hce]; exact hor9
            case measure => simp [intOf]; omega
          · have hkr1 : ¬ (k : Int) < (rets.length : Int) := by omega
            have hfin : LR = (rets.take (k + 1)).map fewR := by rw [List.take_of_length_le (by omega), HLR.out, List.take_of_length_le (by omega)]
            have HF := Lib.hid hfin
            clear hfin hb3 hBq hsz
            have i3 : wc.cell? ⟨q, 3, none⟩ = some (.slice A3 rets.length c3) := (cell_of_row wc (q) 3 _ _ (0, 0) x1).trans rfl
            have fi3 : wc.frozen? ⟨q, 3, none⟩ = false := by simp [World.frozen?, x1]
            have il : q < wc.heap.size := (Array.getElem?_eq_some_iff.1 x1).1
            clear x1
            go_wp2_with fail
            go_roundw
            case rel => exact ⟨k + 1, LE, LR, AE, cE, AR, cR, by omega, by go_num, HLDN.out, HF.out, HB3.out, HOD.out, HOR.out, HC.out⟩
            case measure => simp [intOf]; omega
      · have hkd1 : ¬ (k : Int) < (debs.length : Int) := by omega
        have hLE : LD = debs.take (k + 1) := by rw [List.take_of_length_le (by omega), HLD.out, List.take_of_length_le (by omega)]
        have HLDN := Lib.hid hLE
        clear hLE hBq
        have j2 : wr.cell? ⟨q, 2, none⟩ = some (.slice A2 debs.length c2) := (cell_of_row wr (q) 2 _ _ (0, 0) x1).trans rfl
        have fj2 : wr.frozen? ⟨q, 2, none⟩ = false := by simp [World.frozen?, x1]
        have jl : q < wr.heap.size := (Array.getElem?_eq_some_iff.1 x1).1
        clear x1
        go_upto_region 9 with fail
        clear j2 fj2 jl
        have HC := Lib.hid hC
        have HOD := Lib.hid hod
        have HOR := Lib.hid hor
        have HB3 := Lib.hid hb3
        obtain ⟨x1, x2, hBq, hsz⟩ := HXB.out wr hC
        clear x2 hC hod hor
        by_cases hkr : k < rets.length
        · have hkr1 : (k : Int) < (rets.length : Int) := by omega
          obtain ⟨_, q3⟩ := HS.out wr hBq
          obtain ⟨p3, o3, hA3, p3l, e0, e1, e2, e3⟩ := q3 k hkr
          obtain ⟨hxc, hxm, hxn⟩ := HX.out k hkr
          have HTK : Hid ((rets.take (k + 1)).map fewR = LR ++ [fewR rets[k]]) := Lib.hid (by rw [take_snoc rets k hkr, List.map_append, ← HLR.out]; rfl)
          clear q3 hBq
          obtain ⟨x, hxe⟩ : ∃ x, rets[k] = x := ⟨_, rfl⟩
          rw [hxe] at e0 e1 e2 e3 hxc hxm hxn HTK
          obtain ⟨xa, xb, xq, xA, xc, xl⟩ := x
          simp only at e0 e1 e2 e3 hxc hxm hxn
          subst hA3
          have i2 : wr.cell? ⟨q, 2, none⟩ = some (.slice A2 debs.length c2) := (cell_of_row wr (q) 2 _ _ (0, 0) x1).trans rfl
          have fi2 : wr.frozen? ⟨q, 2, none⟩ = false := by simp [World.frozen?, x1]
          have i3 : wr.cell? ⟨q, 3, none⟩ = some (.slice (some ⟨p3, o3, none⟩) rets.length c3) := (cell_of_row wr (q) 3 _ _ (0, 0) x1).trans rfl
          have fi3 : wr.frozen? ⟨q, 3, none⟩ = false := by simp [World.frozen?, x1]
          have il : q < wr.heap.size := (Array.getElem?_eq_some_iff.1 x1).1
          have HFW := Lib.hid (few18w xA xl.length xc ((wr.alloc (.cells #[.int .i64 xa, .int .i64 xb, .int .i64 xq, .slice xA xl.length xc] 97))) hxc hxm hxn)
          clear hxe x1
          have b3 : wr.cell? ⟨q + 2, 3, none⟩ = some (.slice AR LR.length cR) := (cell_of_row wr (q + 2) 3 _ _ (0, 0) hb3).trans rfl
          have fb3 : wr.frozen? ⟨q + 2, 3, none⟩ = false := by simp [World.frozen?, hb3]
          have bl : q + 2 < wr.heap.size := (Array.getElem?_eq_some_iff.1 hb3).1
          clear hb3 hxc hxm hxn
          go_wp2_with fail
          refine HFW.out.mono ?_
          rintro e y ⟨rfl, rfl⟩
          obtain ⟨M, hM⟩ : ∃ M, xl.take 20 = M := ⟨_, rfl⟩
          have hml : min xl.length 20 = M.length := by rw [← hM, List.length_take]; omega
          have HM := Lib.hid hM
          rw [hml]
          have HOR2 := Lib.hid ((HOR.out.alloc (.cells #[.int .i64 xa, .int .i64 xb, .int .i64 xq, .slice xA M.length xc] 97)).alloc (.cells #[.int .i64 xa, .int .i64 xb, .int .i64 xq, .slice xA M.length xc] 97))
          have hor2 := HOR2.out
          have HSZ : Hid (q + 3 ≤ wr.heap.size) := Lib.hid hsz
          have hu1 := since_alloc (Below.refl _ wr) (.cells #[.int .i64 xa, .int .i64 xb, .int .i64 xq, .slice xA M.length xc] 97)
          have hu2 := since_alloc (Below.refl _ (wr.alloc (.cells #[.int .i64 xa, .int .i64 xb, .int .i64 xq, .slice xA M.length xc] 97))) (.cells #[.int .i64 xa, .int .i64 xb, .int .i64 xq, .slice xA M.length xc] 97)
          have HU := Lib.hid (since_step hu1 hu2)
          clear hml hM hu1 hu2 HFW e0 e1 e2 e3 hsz
          go_wp2_with (first
            | (at_builtin; refine wpList_app rfl (.tmp 53) (.tmp 55) rfl ERn34 rfl rfl hor2 (m := 1) (news := [.int .i64 xa, .int .i64 xb, .int .i64 xq, .slice xA M.length xc]) rfl (Sl.new1 _ _ _ _) (fun z hz => by simp only [List.mem_cons, List.not_mem_nil, or_false] at hz; rcases hz with rfl | rfl | rfl | rfl <;> rfl) (by unfold maxLen; omega) (by omega) (by simp only [World.size_alloc]; have := HSZ.out; omega) ?_; intro A7 c7 w7 own7 hg7 hb7; have hB67 : Below (q + 3) wr w7 := (HU.out.mono HSZ.out).trans hb7; have hb8 := (hB67.block (q + 2) (by omega)).trans HB3.out; have b3 : w7.cell? ⟨q + 2, 2 + 1, none⟩ = some (.slice AR LR.length cR) := (cell_of_row w7 (q + 2) 3 _ _ (0, 0) hb8).trans rfl; have fb3 : w7.frozen? ⟨q + 2, 2 + 1, none⟩ = false := (by simp [World.frozen?, hb8]); have bl : q + 2 < w7.heap.size := (Array.getElem?_eq_some_iff.1 hb8).1; have HB8 := Lib.hid hb8; have HG7 := Lib.hid hg7; have HB67 := Lib.hid hB67; have HO7 := Lib.hid own7; clear hb8 hg7 hB67 hb7 own7)
            | fail)
          have hb9 := setb34 3 (.slice A7 (LR.length + 1) c7) HB8.out
          have hu1 := since_alloc (Below.refl _ wr) (.cells #[.int .i64 xa, .int .i64 xb, .int .i64 xq, .slice xA M.length xc] 97)
          have hu2 := since_alloc (Below.refl _ (wr.alloc (.cells #[.int .i64 xa, .int .i64 xb, .int .i64 xq, .slice xA M.length xc] 97))) (.cells #[.int .i64 xa, .int .i64 xb, .int .i64 xq, .slice xA M.length xc] 97)
          have hod8 := own_kept_types (by decide) (own_below HOD.out HU.out) HOR2.out HG7.out
          have hod9 := own_box34 hod8 HB8.out (by decide) 3 (.slice A7 (LR.length + 1) c7)
          have hor9 := own_box34 HO7.out HB8.out (by decide) 3 (.slice A7 (LR.length + 1) c7)
          have hC9 : Chg (q + 2) none W3 (w7.setCell ⟨q + 2, 3, none⟩ (.slice A7 (LR.length + 1) c7)) := (HC.out.thenB HB67.out (by have := HZ3.out; omega)).trans (Chg.set (g := q + 2) (row := none) 3 (.slice A7 (LR.length + 1) c7)) (.inl rfl)
          have hll : LR.length + 1 = (LR ++ [(⟨xa, xb, xq, xA, xc, M⟩ : Rn)]).length := by rw [List.length_append]; rfl
          have hce : rc Rn.cells LR ++ [.int .i64 xa, .int .i64 xb, .int .i64 xq, .slice xA M.length xc] = rc Rn.cells (LR ++ [(⟨xa, xb, xq, xA, xc, M⟩ : Rn)]) := by rw [rc_snoc34]; rfl
          have hfin : LR ++ [(⟨xa, xb, xq, xA, xc, M⟩ : Rn)] = (rets.take (k + 1)).map fewR := by rw [HTK.out, ← HM.out]; rfl
          go_roundw
          case rel =>
            refine ⟨k + 1, LD, LR ++ [⟨xa, xb, xq, xA, xc, M⟩], AD, cD, A7, c7, by omega, by go_num, HLDN.out, hfin, ?_, hod9, ?_, hC9⟩
            · rw [← hll]; exact hb9
            · rw [← hll, ← hce]; exact hor9
          case measure => simp [intOf]; omega
        · have hkr1 : ¬ (k : Int) < (rets.length : Int) := by omega
          have hfin : LR = (rets.take (k + 1)).map fewR := by rw [List.take_of_length_le (by omega), HLR.out, List.take_of_length_le (by omega)]
          have HF := Lib.hid hfin
          clear hfin hb3 hBq hsz
          have i3 : wr.cell? ⟨q, 3, none⟩ = some (.slice A3 rets.length c3) := (cell_of_row wr (q) 3 _ _ (0, 0) x1).trans rfl
          have fi3 : wr.frozen? ⟨q, 3, none⟩ = false := by simp [World.frozen?, x1]
          have il : q < wr.heap.size := (Array.getElem?_eq_some_iff.1 x1).1
          clear x1
          go_wp2_with fail
          go_roundw
          case rel => exact ⟨k + 1, LD, LR, AD, cD, AR, cR, by omega, by go_num, HLDN.out, HF.out, HB3.out, HOD.out, HOR.out, HC.out⟩
          case measure => simp [intOf]; omega
    · obtain rfl : k = 12 := by omega
      clear x1
      have b0 : wr.cell? ⟨q + 2, 0, none⟩ = some (.int .i64 er) := (cell_of_row wr (q + 2) 0 _ _ (0, 0) hb3).trans rfl
      have fb0 : wr.frozen? ⟨q + 2, 0, none⟩ = false := by simp [World.frozen?, hb3]
      have b1 : wr.cell? ⟨q + 2, 1, none⟩ = some (.slice (some a1) NU.length c1) := (cell_of_row wr (q + 2) 1 _ _ (0, 0) hb3).trans rfl
      have fb1 : wr.frozen? ⟨q + 2, 1, none⟩ = false := by simp [World.frozen?, hb3]
      have b2 : wr.cell? ⟨q + 2, 2, none⟩ = some (.slice AD LD.length cD) := (cell_of_row wr (q + 2) 2 _ _ (0, 0) hb3).trans rfl
      have fb2 : wr.frozen? ⟨q + 2, 2, none⟩ = false := by simp [World.frozen?, hb3]
      have b3 : wr.cell? ⟨q + 2, 3, none⟩ = some (.slice AR LR.length cR) := (cell_of_row wr (q + 2) 3 _ _ (0, 0) hb3).trans rfl
      have fb3 : wr.frozen? ⟨q + 2, 3, none⟩ = false := by simp [World.frozen?, hb3]
      have bl : q + 2 < wr.heap.size := (Array.getElem?_eq_some_iff.1 hb3).1
      have z0 : wr.cell? ⟨q + 1, 0, none⟩ = some (.int .i64 0) := (cell_of_row wr (q + 1) 0 _ _ (0, 0) x2).trans rfl
      have fz0 : wr.frozen? ⟨q + 1, 0, none⟩ = false := by simp [World.frozen?, x2]
      have z1 : wr.cell? ⟨q + 1, 1, none⟩ = some (.slice none 0 0) := (cell_of_row wr (q + 1) 1 _ _ (0, 0) x2).trans rfl
      have fz1 : wr.frozen? ⟨q + 1, 1, none⟩ = false := by simp [World.frozen?, x2]
      have z2 : wr.cell? ⟨q + 1, 2, none⟩ = some (.slice none 0 0) := (cell_of_row wr (q + 1) 2 _ _ (0, 0) x2).trans rfl
      have fz2 : wr.frozen? ⟨q + 1, 2, none⟩ = false := by simp [World.frozen?, x2]
      have z3 : wr.cell? ⟨q + 1, 3, none⟩ = some (.slice none 0 0) := (cell_of_row wr (q + 1) 3 _ _ (0, 0) x2).trans rfl
      have fz3 : wr.frozen? ⟨q + 1, 3, none⟩ = false := by simp [World.frozen?, x2]
      have zl : q + 1 < wr.heap.size := (Array.getElem?_eq_some_iff.1 x2).1
      have hcs := @cell_set
      have HOD := Lib.hid hod
      have HOR := Lib.hid hor
      have HLD := Lib.hid hLD
      have HLR := Lib.hid hLR
      have HBQ := Lib.hid hBq
      clear hod hor hLD hLR hb3 x2 hC hBq
      go_wp2_with fail
      refine bodyPost_ret (v := .agg #[.int .i64 er, .slice (some a1) NU.length c1, .slice AD LD.length cD, .slice AR LR.length cR]) ?_ rfl ⟨LD, LR, AD, cD, AR, cR, rfl, HLD.out, HLR.out, ?_, ?_, ?_⟩
      · simp [results, Try.results19, go_sem, z0, z1, z2, z3, hcs]
      · exact own_base8 (own_at34 HOD.out (((((Chg.refl (q + 1) none wr).trans (Chg.set (g := q + 1) (row := none) 0 (.int .i64 er)) (.inl rfl)).trans (Chg.set (g := q + 1) (row := none) 1 (.slice (some a1) NU.length c1)) (.inl rfl)).trans (Chg.set (g := q + 1) (row := none) 2 (.slice AD LD.length cD)) (.inl rfl)).trans (Chg.set (g := q + 1) (row := none) 3 (.slice AR LR.length cR)) (.inl rfl)) (by omega)) (by omega)
      · exact own_base8 (own_at34 HOR.out (((((Chg.refl (q + 1) none wr).trans (Chg.set (g := q + 1) (row := none) 0 (.int .i64 er)) (.inl rfl)).trans (Chg.set (g := q + 1) (row := none) 1 (.slice (some a1) NU.length c1)) (.inl rfl)).trans (Chg.set (g := q + 1) (row := none) 2 (.slice AD LD.length cD)) (.inl rfl)).trans (Chg.set (g := q + 1) (row := none) 3 (.slice AR LR.length cR)) (.inl rfl)) (by omega)) (by omega)
      · exact ((((HBQ.out.setCell (by show q ≤ q + 1; omega) _).setCell (by show q ≤ q + 1; omega) _).setCell (by show q ≤ q + 1; omega) _).setCell (by show q ≤ q + 1; omega) _)
end Go.Proofs.Ytpmnjojednbnpaa
end
