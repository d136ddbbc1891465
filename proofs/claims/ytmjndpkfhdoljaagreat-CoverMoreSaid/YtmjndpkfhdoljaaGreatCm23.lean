import Derived.Test.YtmjndpkfhdoljaaGreatCm12
import Derived.Test.YtmjndpkfhdoljaaGreatCm21
import Derived.Test.YtmjndpkfhdoljaaGreatCm22
set_option maxHeartbeats 16000000
set_option maxRecDepth 100000
set_option linter.unusedVariables false
set_option linter.unusedSimpArgs false
namespace Go.Proofs.YtmjndpkfhdoljaaGreat
open Go.ChangeShapes Go.WideShapes Go.ChangeAt Go.RowKit
section
def shk (is : List Ins) (s : Int) (x : Lg) : Int := match fndI is x.ins with
  | none => 0
  | some i => shockZ i x.qty s
def lossZ (is : List Ins) (s : Int) (M : List Lg) : Int := -(M.map (shk is s)).sum
def missI (is : List Ins) (M : List Lg) : Bool := M.any fun x => (fndI is x.ins).isNone
def lossR (is : List Ins) (M : List Lg) (s : Int) : Int × Int := if isG M = false then (0, 3) else if missI is M = true then (0, 11) else (lossZ is s M, 0)
theorem lossR_form {is : List Ins} {M : List Lg} {s : Int} (h : isG M = false) : lossR is M s = (0, 3) := if_pos h
theorem lossR_miss {is : List Ins} {M : List Lg} {s : Int} (h : isG M = true) {k : Nat} (hk : k < M.length) (hn : fndI is M[k].ins = none) : lossR is M s = (0, 11) := by
  unfold lossR
  rw [if_neg (by simp [h]), if_pos]
  unfold missI
  rw [List.any_eq_true]
  exact ⟨_, List.getElem_mem hk, by rw [hn]; rfl⟩
theorem lossR_ok {is : List Ins} {M : List Lg} {s : Int} (h : isG M = true) (hf : ∀ k, (hk : k < M.length) → (fndI is M[k].ins).isSome = true) : lossR is M s = (lossZ is s M, 0) := by
  unfold lossR
  rw [if_neg (by simp [h]), if_neg]
  unfold missI
  intro ha
  rw [List.any_eq_true] at ha
  obtain ⟨x, hx, hn⟩ := ha
  obtain ⟨k, hk, rfl⟩ := List.getElem_of_mem hx
  have := hf k hk
  cases hq : fndI is M[k].ins with
  | none => rw [hq] at this; cases this
  | some i => rw [hq] at hn; cases hn
theorem lossZ_step (is : List Ins) (s : Int) (M : List Lg) {k : Nat} (hk : k < M.length) : lossZ is s (M.take (k + 1)) = lossZ is s (M.take k) + -(shk is s M[k]) := by
  unfold lossZ
  rw [take_snoc M k hk, List.map_append, List.sum_append]
  simp
  omega
theorem shock_bd {i : Ins} {q s : Int} (hq : In64 q) : -(1298074214633706907132624082305024 : Int) ≤ shockZ i q s ∧ shockZ i q s ≤ 1298074214633706907132624082305024 := by
  unfold shockZ
  split
  · rename_i h
    obtain ⟨hok, h0, h1⟩ := h
    have hk : s.toNat < i.mv.length := by omega
    have hm := ok_move hok hk
    have ht := ok_mult hok
    have e : i.mv.getD s.toNat 0 = i.mv[s.toNat] := by rw [List.getD_eq_getElem?_getD, List.getElem?_eq_getElem hk]; rfl
    rw [e]
    unfold In64 at hq
    have a1 := abs_mul_le (A := 9223372036854775808) (B := 2147483647) (a := q) (b := i.mv[s.toNat]) (by omega) hm
    have a2 := abs_mul_le (A := 9223372036854775808 * 2147483647) (B := 65536) (a := q * i.mv[s.toNat]) (b := i.mult) a1 (by omega)
    omega
  · omega
theorem lossZ_bd {is : List Ins} {s : Int} : ∀ {M : List Lg}, (∀ y ∈ M, In64 y.qty) → -((M.length : Int) * 1298074214633706907132624082305024) ≤ lossZ is s M ∧ lossZ is s M ≤ (M.length : Int) * 1298074214633706907132624082305024
  | [], _ => by simp [lossZ]
  | x :: M, h => by
    have ih := lossZ_bd (is := is) (s := s) (M := M) fun y hy => h y (List.mem_cons_of_mem _ hy)
    have e : lossZ is s (x :: M) = lossZ is s M - shk is s x := by unfold lossZ; simp; omega
    have b : -(1298074214633706907132624082305024 : Int) ≤ shk is s x ∧ shk is s x ≤ 1298074214633706907132624082305024 := by
      unfold shk
      split
      · omega
      · exact shock_bd (h x (by simp))
    rw [e, List.length_cons]
    omega
theorem lossZ_128 {is : List Ins} {s : Int} {M : List Lg} (h : ∀ y ∈ M, In64 y.qty) (hl : M.length ≤ 1000) : In128 (lossZ is s M) := by
  have := lossZ_bd (is := is) (s := s) h
  unfold In128
  omega
theorem shk_128 {is : List Ins} {s : Int} {x : Lg} (h : In64 x.qty) : In128 (shk is s x) := by
  unfold shk In128
  split
  · omega
  · rename_i i _
    have := shock_bd (i := i) (s := s) h
    omega
def LRes24 (e : Ending) (R : Int × Int) : Prop := e = .returned (.tuple #[.agg #[.int .i64 (hiN R.1), .int .u64 (loN R.1)], .int .i64 R.2])
theorem gloss_any (A : Option Addr) (cap : Nat) (l : List Iq) (is : List Ins) (LA : Option Addr) (LC : Nat) (M : List Lg) (s : Int) (w : World) (hl : l.length ≤ 900000) (hcl : ∀ i ∈ is, i.mv.length ≤ 900000) (hMl : M.length ≤ 1000) (hM6 : ∀ y ∈ M, In64 y.qty) (hs6 : In64 s) (hs : Sl w A (rc Iq.cells l)) (ht : InTab w l is) (hM : Sl w LA (rc Lg.cells M)) :
  Calls Tryz.prog 115 #[.slice A l.length cap, .slice LA M.length LC, .int .i64 s] w fun e w' => LRes24 e (lossR is M s) ∧ Below w.heap.size w w' := by
 obtain ⟨z1, z2, z3⟩ := zero_parts
 have hB0 := since_alloc (Below.refl _ w) (.cells #[.int .i64 0, .int .u64 0] 123)
 have T60 := T2.new w 0 0 123
 have HIS := Lib.hid (vis_any LA LC M _ (by omega) (hM.alloc (.cells #[.int .i64 0, .int .u64 0] 123)))
 have HSL : Hid (∀ V, Below w.heap.size w V → Sl V A (rc Iq.cells l)) := Lib.hid fun V hV => hs.below hV
 have HTB : Hid (∀ V, Below w.heap.size w V → InTab V l is) := Lib.hid fun V hV => ht.below hV
 have HSM : Hid (∀ V, Below w.heap.size w V → Sl V LA (rc Lg.cells M)) := Lib.hid fun V hV => hM.below hV
 have HFD := Lib.hid (fun id V h1 h2 => ifind_any A cap l is id V hl hcl h1 h2)
 have HZ0 : Hid (hiN 0 = 0 ∧ loN 0 = 0) := Lib.hid ⟨z1, z2⟩
 clear hs ht hM z1 z2 z3
 cases hi : isG M with
 | false =>
  have HR := Lib.hid (lossR_form (is := is) (s := s) hi)
  rw [hi] at HIS
  clear hi
  have hcs := @cell_set
  go_enter Tryz.func115, Tryz.ntmps115
  go_wp2_with fail
  refine HIS.out.mono ?_
  rintro e w1 ⟨rfl, hb⟩
  have hB1 := since_step hB0 hb
  have T61 := T60.below hb
  obtain ⟨t0, t1, t2, t3, t4⟩ := id T61
  go_wp2_with fail
  refine bodyPost_ret (v := .tuple #[.agg #[.int .i64 0, .int .u64 0], .int .i64 3]) ?_ rfl ⟨?_, ?_⟩
  ·simp [results, Tryz.results115, go_sem, t1, t2, hcs]
  ·rw [HR.out]; unfold LRes24; simp only; rw [HZ0.out.1, HZ0.out.2]
  ·repeat' (first | with_reducible exact hB1 | with_reducible refine Below.setCell ?_ ?_ _ | with_reducible refine Below.alloc ?_ ?_ _)
   all_goals first | (simp; done) | (simp; omega)
 | true =>
  rw [hi] at HIS
  have HMI := Lib.hid (fun k (hk : k < M.length) hn => lossR_miss (is := is) (s := s) hi hk hn)
  have HOK := Lib.hid (fun hf => lossR_ok (is := is) (s := s) hi hf)
  clear hi
  go_enter Tryz.func115, Tryz.ntmps115
  go_wp2_with fail
  refine HIS.out.mono ?_
  rintro e w1 ⟨rfl, hb⟩
  have hB1 := since_step hB0 hb
  have T61 := (T60.below hb).alloc (.cells #[.int .i64 0, .int .u64 0] 123)
  have T81 := T2.new w1 0 0 123
  have hB2 := since_alloc hB1 (.cells #[.int .i64 0, .int .u64 0] 123)
  have hn8 : w1.heap.size ≠ w.heap.size := by have := (T60.below hb).1; omega
  have hg8 : w.heap.size ≤ w1.heap.size := hB1.size
  clear hb T60
  go_upto_region 4 with fail
  generalize hWW : w1.alloc (.cells #[.int .i64 0, .int .u64 0] 123) = W at *
  generalize hGG : w1.heap.size = g8 at *
  clear hWW hGG
  have HN8 : Hid (g8 ≠ w.heap.size) := Lib.hid hn8
  have HG8 : Hid (w.heap.size ≤ g8) := Lib.hid hg8
  clear hn8 hg8 hB1
  go_wp2_with fail
  go_loopw [21] (fun iv wr => ∃ k : Nat, k ≤ M.length ∧ iv = .int .i64 k ∧ (∀ j, (hj : j < M.length) → j < k → (fndI is M[j].ins).isSome = true) ∧ T2 wr w.heap.size 0 0 ∧ T2 wr g8 (hiN (lossZ is s (M.take k))) (loN (lossZ is s (M.take k))) ∧ Below w.heap.size w wr) (fun iv _ => M.length - (intOf iv).toNat)
  case atStart => exact ⟨0, by omega, rfl, fun j hj h => absurd h (by omega), T61, (by rw [List.take_zero, show lossZ is s [] = 0 from rfl, HZ0.out.1, HZ0.out.2]; exact T81), hB2⟩
  case round =>
   obtain ⟨k, hk, rfl, hno, T6, T8, hB⟩ := hrel
   by_cases hlt : k < M.length
   ·have hlk : (k : Int) < (M.length : Int) := by omega
    have hge : (0 : Int) ≤ (k : Int) := by omega
    obtain ⟨b, o, rfl, hbw, hg⟩ := (HSM.out _ hB).lg hlt
    have HST := Lib.hid (lossZ_step is s M hlt)
    have hq6 := hM6 _ (List.getElem_mem hlt)
    have H128 : Hid (In128 (lossZ is s (M.take k))) := Lib.hid (lossZ_128 (fun y hy => hM6 y (List.mem_of_mem_take hy)) (by rw [List.length_take]; omega))
    have H129 : Hid (In128 (lossZ is s (M.take (k + 1)))) := Lib.hid (lossZ_128 (fun y hy => hM6 y (List.mem_of_mem_take hy)) (by rw [List.length_take]; omega))
    have HSK := Lib.hid (shk_128 (is := is) (s := s) hq6)
    have HMK := Lib.hid (HMI.out k hlt)
    have HNX : Hid ((fndI is M[k].ins).isSome = true → ∀ j, (hj : j < M.length) → j < k + 1 → (fndI is M[j].ins).isSome = true) := Lib.hid fun h j hj hjk => by
     rcases Nat.lt_or_ge j k with h' | h'
     ·exact hno j hj h'
     ·obtain rfl : j = k := by omega
      exact h
    have HE : Hid (∀ i, fndI is M[k].ins = some i → shk is s M[k] = shockZ i M[k].qty s) := Lib.hid fun i h => by unfold shk; rw [h]
    clear hno
    generalize M[k] = v at *
    obtain ⟨vi, vq⟩ := v
    obtain ⟨g0, g1⟩ := hg
    simp only at g0 g1 hq6
    simp only at HMK HNX HE
    have hBA := since_alloc hB (.cells #[.int .i64 vi, .int .i64 vq] 151)
    have HF := Lib.hid (HFD.out vi _ (HSL.out _ hBA) (HTB.out _ hBA))
    have HK10 := Bk.new wr #[.int .i64 vi, .int .i64 vq] 151
    have T6a := T6.alloc (.cells #[.int .i64 vi, .int .i64 vq] 151)
    have T8a := T8.alloc (.cells #[.int .i64 vi, .int .i64 vq] 151)
    have hcs := @cell_set
    clear T6 T8
    cases hf : fndI is vi with
    | none =>
     have HR := Lib.hid (HMK.out hf)
     rw [hf] at HF
     unfold FIns at HF
     simp only at HF
     clear hf HMK HNX HE
     go_wp2_with fail
     refine HF.out.mono ?_
     rintro e u1 ⟨rfl, hb⟩
     have hB3 := since_step hBA hb
     have T6b := T6a.below hb
     obtain ⟨t0, t1, t2, t3, t4⟩ := id T6b
     go_wp2_with fail
     refine bodyPost_ret (v := .tuple #[.agg #[.int .i64 0, .int .u64 0], .int .i64 11]) ?_ rfl ⟨?_, ?_⟩
     ·simp [results, Tryz.results115, go_sem, t0, t1, t2, hcs]
     ·rw [HR.out]; unfold LRes24; simp only; rw [HZ0.out.1, HZ0.out.2]
     ·repeat' (first | with_reducible exact hB3 | with_reducible refine Below.setCell ?_ ?_ _ | with_reducible refine Below.alloc ?_ ?_ _)
      all_goals first | (simp; done) | (simp; omega)
    | some i =>
     have HNO := Lib.hid (HNX.out (by rw [hf]; rfl))
     have hse := HE.out i hf
     rw [hse] at HST HSK
     rw [hf] at HF
     unfold FIns at HF
     simp only at HF
     clear hf HMK HNX HE hse
     generalize hz0 : lossZ is s (M.take k) = z0 at *
     generalize hy0 : shockZ i vq s = y0 at *
     have HSU := Lib.hid (fun V => wsub_any z0 y0 H128.out HSK.out V)
     have HZZ := Lib.hid HST.out
     obtain ⟨zz, hzz⟩ : ∃ zz, z0 + -y0 = zz := ⟨_, rfl⟩
     rw [hzz] at HZZ HSU
     rw [wideE_yes (by rw [← HZZ.out]; exact H129.out)] at HSU
     clear hzz HST hz0
     go_wp2_with fail
     refine HF.out.mono ?_
     rintro e u1 ⟨⟨IA, IC, rfl, hia⟩, hb⟩
     have hB3 := since_step hBA hb
     have HSH := Lib.hid (fun V (h : InsAt V i IA IC) => shock_any i IA IC vq s V h hq6 hs6)
     rw [hy0] at HSH
     unfold insV at HSH ⊢
     have hBY := since_alloc hB3 (.cells #[.int .i64 i.id, .int .i64 i.mult, .int .i64 i.price, .int .i64 i.nxt, .slice IA i.mv.length IC] 92)
     have hia := hia.below ((Below.refl _ _).alloc (Nat.le_refl _) (.cells #[.int .i64 i.id, .int .i64 i.mult, .int .i64 i.price, .int .i64 i.nxt, .slice IA i.mv.length IC] 92))
     have K11 := Bk.new u1 #[.int .i64 i.id, .int .i64 i.mult, .int .i64 i.price, .int .i64 i.nxt, .slice IA i.mv.length IC] 92
     have K10 := (HK10.below hb).alloc (.cells #[.int .i64 i.id, .int .i64 i.mult, .int .i64 i.price, .int .i64 i.nxt, .slice IA i.mv.length IC] 92)
     have T6b := (T6a.below hb).alloc (.cells #[.int .i64 i.id, .int .i64 i.mult, .int .i64 i.price, .int .i64 i.nxt, .slice IA i.mv.length IC] 92)
     have T8b := (T8a.below hb).alloc (.cells #[.int .i64 i.id, .int .i64 i.mult, .int .i64 i.price, .int .i64 i.nxt, .slice IA i.mv.length IC] 92)
     clear hb T6a T8a HK10 hy0 hB3 g0 g1
     go_upto_region 10 with fail
     generalize hYY : u1.alloc (.cells #[.int .i64 i.id, .int .i64 i.mult, .int .i64 i.price, .int .i64 i.nxt, .slice IA i.mv.length IC] 92) = Y at *
     clear hYY hcs
     have HIA : Hid (∀ V, Below Y.heap.size Y V → InsAt V i IA IC) := Lib.hid fun V h => hia.below h
     have HT : Hid (∀ V, Below Y.heap.size Y V → T2 V w.heap.size 0 0 ∧ T2 V g8 (hiN z0) (loN z0)) := Lib.hid fun V h => ⟨T6b.below h, T8b.below h⟩
     have HC : Hid (∀ V, Below Y.heap.size Y V → (V.cell? ⟨g8, 0, none⟩ = some (.int .i64 (hiN z0)) ∧ V.cell? ⟨g8, 1, none⟩ = some (.int .u64 (loN z0))) ∧ V.cell? ⟨wr.heap.size, 1, none⟩ = some (.int .i64 vq) ∧ V.cell? ⟨u1.heap.size, 0, none⟩ = some (.int .i64 i.id) ∧ V.cell? ⟨u1.heap.size, 1, none⟩ = some (.int .i64 i.mult) ∧ V.cell? ⟨u1.heap.size, 2, none⟩ = some (.int .i64 i.price) ∧ V.cell? ⟨u1.heap.size, 3, none⟩ = some (.int .i64 i.nxt) ∧ V.cell? ⟨u1.heap.size, 4, none⟩ = some (.slice IA i.mv.length IC)) := Lib.hid fun V h => ⟨⟨(T8b.below h).2.1, (T8b.below h).2.2.1⟩, (K10.below h).2 1, (K11.below h).2 0, (K11.below h).2 1, (K11.below h).2 2, (K11.below h).2 3, (K11.below h).2 4⟩
     clear T6b T8b hia K10 K11
     go_wp2_with fail
     refine wp_region_held_drew (S := (fun V => Below Y.heap.size Y V)) (by kernel_rfl) (by exact (Below.refl _ _).drew) (fun hHeld => ?_)
     refine tkI 0 36 rfl (by intro w hSw; obtain ⟨⟨q0, q1⟩, q2, r0, r1, r2, r3, r4⟩ := HC.out _ hSw; go_simp <;> with_reducible rfl) hHeld ?_; simp only [pqZ]
     refine tkI 1 37 rfl (by intro w hSw; obtain ⟨⟨q0, q1⟩, q2, r0, r1, r2, r3, r4⟩ := HC.out _ hSw; go_simp <;> with_reducible rfl) hHeld ?_; simp only [pqZ]
     refine tkJ 2 38 rfl (by intro w; go_simp <;> with_reducible rfl) hHeld ?_; simp only [pqZ]
     refine tkI 3 39 rfl (by intro w hSw; obtain ⟨⟨q0, q1⟩, q2, r0, r1, r2, r3, r4⟩ := HC.out _ hSw; go_simp <;> with_reducible rfl) hHeld ?_; simp only [pqZ]
     refine tkJ 4 40 rfl (by intro w; go_simp <;> with_reducible rfl) hHeld ?_; simp only [pqZ]
     refine wpAnyH_ready (rs := [5, 10]) (by kernel_rfl) (by simp) ?_
     refine AllReadyH.cons (o := ⟨some 41, _, _, _, _, _⟩) rfl (fun K hK => ?_) (AllReadyH.cons (o := ⟨some 13, _, _, _, _, _⟩) rfl (fun K hK => ?_) AllReadyH.nil)
     ·go_simp
      refine (HSH.out _ (HIA.out _ hHeld)).mono ?_
      rintro e x1 ⟨rfl, hk1⟩
      have hKeep := since_step hHeld hk1
      go_wp2_with fail
      refine hK.out _ _ (by (try dsimp only); exact hKeep) (fun hHeld => ?_); clear hK K hKeep; try simp only [pqZ]
      refine wpAnyH_ready (rs := [6, 10]) (by kernel_rfl) (by simp) ?_
      refine AllReadyH.cons (o := ⟨some 42, _, _, _, _, _⟩) rfl (fun K hK => ?_) (AllReadyH.cons (o := ⟨some 13, _, _, _, _, _⟩) rfl (fun K hK => ?_) AllReadyH.nil)
      ·go_simp
       refine (HSU.out _).mono ?_
       rintro e x2 ⟨rfl, hk2⟩
       have hKeep := since_step hHeld hk2
       go_wp2_with fail
       refine hK.out _ _ (by (try dsimp only); exact hKeep) (fun hHeld => ?_); clear hK K hKeep; try simp only [pqZ]
       refine tkJ 7 35 rfl (by intro w; go_simp <;> with_reducible rfl) hHeld ?_; simp only [pqZ]
       refine tkJ 8 43 rfl (by intro w; go_simp <;> with_reducible rfl) hHeld ?_; simp only [pqZ]
       refine tkJ 9 44 rfl (by intro w; go_simp <;> with_reducible rfl) hHeld ?_; simp only [pqZ]
       refine rdZ 10 13 rfl (by kernel_rfl) (fun K hK => ?_)
       have hHd := hHeld
       obtain ⟨⟨q0, q1⟩, q2, r0, r1, r2, r3, r4⟩ := HC.out _ hHd
       have hHp := hHeld
       have G := T2.new x2 0 0 123
       have hgs : Y.heap.size ≤ x2.heap.size := by have h := hHeld.size; (try simp only [World.size_alloc, World.size_drew] at h ⊢); omega
       have hKeep := since_alloc hHeld (.cells #[.int .i64 0, .int .u64 0] 123)
       go_simp
       refine hK.out _ _ (by (try dsimp only); exact hKeep) (fun hHeld => ?_); clear hK K hKeep; try simp only [pqZ]
       refine wpAnyH_ready (rs := [11]) (by kernel_rfl) (by simp) ?_
       refine AllReadyH.cons (o := ⟨none, _, _, _, _, _⟩) rfl (fun K hK => ?_) AllReadyH.nil
       have hHd := hHeld
       obtain ⟨⟨q0, q1⟩, q2, r0, r1, r2, r3, r4⟩ := HC.out _ hHd
       have G9 := T2.new x2 (hiN zz) (loN zz) 123
       obtain ⟨g0, g1, g2, g3, g4⟩ := id G
       have hKeep := since_alloc hHp (.cells #[.int .i64 (hiN zz), .int .u64 (loN zz)] 123)
       skip
       go_simp
       refine hK.out _ _ (by (try dsimp only); exact hKeep) (fun hHeld => ?_); clear hK K hKeep; try simp only [pqZ]
       refine tkJ 12 14 rfl (by intro w; go_simp <;> with_reducible rfl) hHeld ?_; simp only [pqZ]
       refine wpAnyH_done (by kernel_rfl) ?_ _
       generalize hFW : (x2.alloc (.cells #[.int .i64 (hiN zz), .int .u64 (loN zz)] 123)) = FW at *
       have hBf := hBY.trans (hHeld.mono hBY.size)
       have T6 := (HT.out _ hHeld).1
       have T8 := (HT.out _ hHeld).2
       have hcs := @cell_set
       obtain ⟨d0, d1, d2, d3, d4⟩ := id G9
       obtain ⟨t0, t1, t2, t3, t4⟩ := id T8
       go_wp2_with fail
       have T8n := T2.set2 T8 (hiN zz) (loN zz)
       have T6n := (T2.far T6 (p := ⟨g8, 0, none⟩) HN8.out (.int .i64 (hiN zz))).far (p := ⟨g8, 1, none⟩) HN8.out (.int .u64 (loN zz))
       have hBn := Below.setCell (Below.setCell hBf (p := ⟨g8, 0, none⟩) HG8.out (.int .i64 (hiN zz))) (p := ⟨g8, 1, none⟩) HG8.out (.int .u64 (loN zz))
       clear hcs
       go_roundw
       case rel => exact ⟨k + 1, by omega, by go_num, HNO.out, T6n, (by rw [HZZ.out]; exact T8n), hBn⟩
       case measure => simp [intOf]; omega
      ·have hHd := hHeld
       obtain ⟨⟨q0, q1⟩, q2, r0, r1, r2, r3, r4⟩ := HC.out _ hHd
       have hHp := hHeld
       have G := T2.new x1 0 0 123
       have hgs : Y.heap.size ≤ x1.heap.size := by have h := hHeld.size; (try simp only [World.size_alloc, World.size_drew] at h ⊢); omega
       have hKeep := since_alloc hHeld (.cells #[.int .i64 0, .int .u64 0] 123)
       go_simp
       refine hK.out _ _ (by (try dsimp only); exact hKeep) (fun hHeld => ?_); clear hK K hKeep; try simp only [pqZ]
       refine rdZ 6 42 rfl (by kernel_rfl) (fun K hK => ?_)
       go_simp
       refine (HSU.out _).mono ?_
       rintro e x2 ⟨rfl, hk2⟩
       have hKeep := since_step hHeld hk2
       have G := G.below hk2
       go_wp2_with fail
       refine hK.out _ _ (by (try dsimp only); exact hKeep) (fun hHeld => ?_); clear hK K hKeep; try simp only [pqZ]
       refine tkJ 7 35 rfl (by intro w; go_simp <;> with_reducible rfl) hHeld ?_; simp only [pqZ]
       refine tkJ 8 43 rfl (by intro w; go_simp <;> with_reducible rfl) hHeld ?_; simp only [pqZ]
       refine tkJ 9 44 rfl (by intro w; go_simp <;> with_reducible rfl) hHeld ?_; simp only [pqZ]
       refine wpAnyH_ready (rs := [11]) (by kernel_rfl) (by simp) ?_
       refine AllReadyH.cons (o := ⟨none, _, _, _, _, _⟩) rfl (fun K hK => ?_) AllReadyH.nil
       have hHd := hHeld
       obtain ⟨⟨q0, q1⟩, q2, r0, r1, r2, r3, r4⟩ := HC.out _ hHd
       have G9 := G.set2 (hiN zz) (loN zz)
       obtain ⟨g0, g1, g2, g3, g4⟩ := id G
       have hKeep := Below.setCell (Below.setCell hHeld (p := ⟨x1.heap.size, 0, none⟩) hgs (.int .i64 (hiN zz))) (p := ⟨x1.heap.size, 1, none⟩) hgs (.int .u64 (loN zz))
       skip
       go_simp
       refine hK.out _ _ (by (try dsimp only); exact hKeep) (fun hHeld => ?_); clear hK K hKeep; try simp only [pqZ]
       refine tkJ 12 14 rfl (by intro w; go_simp <;> with_reducible rfl) hHeld ?_; simp only [pqZ]
       refine wpAnyH_done (by kernel_rfl) ?_ _
       generalize hFW : ((x2.setCell ⟨x1.heap.size, 0, none⟩ (.int .i64 (hiN zz))).setCell ⟨x1.heap.size, 1, none⟩ (.int .u64 (loN zz))) = FW at *
       have hBf := hBY.trans (hHeld.mono hBY.size)
       have T6 := (HT.out _ hHeld).1
       have T8 := (HT.out _ hHeld).2
       have hcs := @cell_set
       obtain ⟨d0, d1, d2, d3, d4⟩ := id G9
       obtain ⟨t0, t1, t2, t3, t4⟩ := id T8
       go_wp2_with fail
       have T8n := T2.set2 T8 (hiN zz) (loN zz)
       have T6n := (T2.far T6 (p := ⟨g8, 0, none⟩) HN8.out (.int .i64 (hiN zz))).far (p := ⟨g8, 1, none⟩) HN8.out (.int .u64 (loN zz))
       have hBn := Below.setCell (Below.setCell hBf (p := ⟨g8, 0, none⟩) HG8.out (.int .i64 (hiN zz))) (p := ⟨g8, 1, none⟩) HG8.out (.int .u64 (loN zz))
       clear hcs
       go_roundw
       case rel => exact ⟨k + 1, by omega, by go_num, HNO.out, T6n, (by rw [HZZ.out]; exact T8n), hBn⟩
       case measure => simp [intOf]; omega
     ·have hHd := hHeld
      obtain ⟨⟨q0, q1⟩, q2, r0, r1, r2, r3, r4⟩ := HC.out _ hHd
      have hHp := hHeld
      have G := T2.new Y.drew 0 0 123
      rw [World.size_drew] at G
      have hgs : Y.heap.size ≤ Y.heap.size := by have h := hHeld.size; (try simp only [World.size_alloc, World.size_drew] at h ⊢); omega
      have hKeep := since_alloc hHeld (.cells #[.int .i64 0, .int .u64 0] 123)
      go_simp
      refine hK.out _ _ (by (try dsimp only); exact hKeep) (fun hHeld => ?_); clear hK K hKeep; try simp only [pqZ]
      refine rdZ 5 41 rfl (by kernel_rfl) (fun K hK => ?_)
      go_simp
      refine (HSH.out _ (HIA.out _ hHeld)).mono ?_
      rintro e x1 ⟨rfl, hk1⟩
      have hKeep := since_step hHeld hk1
      have G := G.below hk1
      go_wp2_with fail
      refine hK.out _ _ (by (try dsimp only); exact hKeep) (fun hHeld => ?_); clear hK K hKeep; try simp only [pqZ]
      refine rdZ 6 42 rfl (by kernel_rfl) (fun K hK => ?_)
      go_simp
      refine (HSU.out _).mono ?_
      rintro e x2 ⟨rfl, hk2⟩
      have hKeep := since_step hHeld hk2
      have G := G.below hk2
      go_wp2_with fail
      refine hK.out _ _ (by (try dsimp only); exact hKeep) (fun hHeld => ?_); clear hK K hKeep; try simp only [pqZ]
      refine tkJ 7 35 rfl (by intro w; go_simp <;> with_reducible rfl) hHeld ?_; simp only [pqZ]
      refine tkJ 8 43 rfl (by intro w; go_simp <;> with_reducible rfl) hHeld ?_; simp only [pqZ]
      refine tkJ 9 44 rfl (by intro w; go_simp <;> with_reducible rfl) hHeld ?_; simp only [pqZ]
      refine wpAnyH_ready (rs := [11]) (by kernel_rfl) (by simp) ?_
      refine AllReadyH.cons (o := ⟨none, _, _, _, _, _⟩) rfl (fun K hK => ?_) AllReadyH.nil
      have hHd := hHeld
      obtain ⟨⟨q0, q1⟩, q2, r0, r1, r2, r3, r4⟩ := HC.out _ hHd
      have G9 := G.set2 (hiN zz) (loN zz)
      obtain ⟨g0, g1, g2, g3, g4⟩ := id G
      have hKeep := Below.setCell (Below.setCell hHeld (p := ⟨Y.heap.size, 0, none⟩) hgs (.int .i64 (hiN zz))) (p := ⟨Y.heap.size, 1, none⟩) hgs (.int .u64 (loN zz))
      skip
      go_simp
      refine hK.out _ _ (by (try dsimp only); exact hKeep) (fun hHeld => ?_); clear hK K hKeep; try simp only [pqZ]
      refine tkJ 12 14 rfl (by intro w; go_simp <;> with_reducible rfl) hHeld ?_; simp only [pqZ]
      refine wpAnyH_done (by kernel_rfl) ?_ _
      generalize hFW : ((x2.setCell ⟨Y.heap.size, 0, none⟩ (.int .i64 (hiN zz))).setCell ⟨Y.heap.size, 1, none⟩ (.int .u64 (loN zz))) = FW at *
      have hBf := hBY.trans (hHeld.mono hBY.size)
      have T6 := (HT.out _ hHeld).1
      have T8 := (HT.out _ hHeld).2
      have hcs := @cell_set
      obtain ⟨d0, d1, d2, d3, d4⟩ := id G9
      obtain ⟨t0, t1, t2, t3, t4⟩ := id T8
      go_wp2_with fail
      have T8n := T2.set2 T8 (hiN zz) (loN zz)
      have T6n := (T2.far T6 (p := ⟨g8, 0, none⟩) HN8.out (.int .i64 (hiN zz))).far (p := ⟨g8, 1, none⟩) HN8.out (.int .u64 (loN zz))
      have hBn := Below.setCell (Below.setCell hBf (p := ⟨g8, 0, none⟩) HG8.out (.int .i64 (hiN zz))) (p := ⟨g8, 1, none⟩) HG8.out (.int .u64 (loN zz))
      clear hcs
      go_roundw
      case rel => exact ⟨k + 1, by omega, by go_num, HNO.out, T6n, (by rw [HZZ.out]; exact T8n), hBn⟩
      case measure => simp [intOf]; omega
   ·obtain rfl : k = M.length := by omega
    rw [List.take_length] at T8
    have HR := Lib.hid (HOK.out fun j hj => hno j hj hj)
    clear hno
    generalize hz : lossZ is s M = z at *
    clear hz
    have hcs := @cell_set
    obtain ⟨t0, t1, t2, t3, t4⟩ := id T8
    obtain ⟨r0, r1, r2, r3, r4⟩ := id T6
    go_wp2_with fail
    refine bodyPost_ret (v := .tuple #[.agg #[.int .i64 (hiN z), .int .u64 (loN z)], .int .i64 0]) ?_ rfl ⟨?_, ?_⟩
    ·simp [results, Tryz.results115, go_sem, r0, r1, r2, hcs]
    ·rw [HR.out]; rfl
    ·repeat' (first | with_reducible exact hB | with_reducible refine Below.setCell ?_ ?_ _ | with_reducible refine Below.alloc ?_ ?_ _)
     all_goals first | (simp; done) | (simp; omega)
end
end Go.Proofs.YtmjndpkfhdoljaaGreat
