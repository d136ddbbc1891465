import Derived.Test.YtpmnjojednbnpaaCr14
import Derived.Test.YtpmnjojednbnpaaCr20
section
namespace Go.Proofs.Ytpmnjojednbnpaa
open Go.ChangeShapes Go.WideShapes Go.ChangeAt Go.RowKit
set_option linter.unusedVariables false
set_option linter.unusedSimpArgs false

def pre0 (er : Int) (nums : List Int) : List Int := er :: (nums.length : Int) :: nums
def pre1 (er : Int) (nums : List Int) (debs : List Db) (k : Nat) : List Int := pre0 er nums ++ ((debs.length : Int) :: (debs.take k).flatMap Db.nums)
def pre2 (er : Int) (nums : List Int) (debs : List Db) (rets : List Rn) (k : Nat) : List Int := pre1 er nums debs debs.length ++ ((rets.length : Int) :: (rets.take k).flatMap Rn.nums)
def pre3 (x : Rn) (j : Nat) : List Int := x.a :: x.b :: x.q :: (x.lots.length : Int) :: (x.lots.take j).flatMap Lo.nums
theorem pre2_all (er : Int) (nums : List Int) (debs : List Db) (rets : List Rn) : pre2 er nums debs rets rets.length = repL er nums debs rets := by
  unfold pre2 pre1 pre0 repL
  rw [List.take_length, List.take_length]
  simp
theorem flat_split {α : Type} (f : α → List Int) (l : List α) (k : Nat) : (l.take k).flatMap f ++ (l.drop k).flatMap f = l.flatMap f := by
  rw [← List.flatMap_append, List.take_append_drop]
theorem packL_pre {a b c : List Int} (h : a ++ b = c) : (packL a).length ≤ (packL c).length := by
  rw [← h, packL_append, List.length_append]; omega
theorem pre1_len (er : Int) (nums : List Int) (debs : List Db) (rets : List Rn) (k : Nat) : (packL (pre1 er nums debs k)).length ≤ (packL (repL er nums debs rets)).length := by
  refine packL_pre (b := (debs.drop k).flatMap Db.nums ++ ((rets.length : Int) :: rets.flatMap Rn.nums)) ?_
  unfold pre1 pre0 repL
  rw [← flat_split Db.nums debs k]
  simp
theorem pre2_len (er : Int) (nums : List Int) (debs : List Db) (rets : List Rn) (k : Nat) : (packL (pre2 er nums debs rets k)).length ≤ (packL (repL er nums debs rets)).length := by
  refine packL_pre (b := (rets.drop k).flatMap Rn.nums) ?_
  unfold pre2 pre1 pre0 repL
  rw [← flat_split Rn.nums rets k, List.take_length]
  simp
theorem pre3_len (er : Int) (nums : List Int) (debs : List Db) (rets : List Rn) (k j : Nat) (hk : k < rets.length) : (packL (pre2 er nums debs rets k ++ pre3 rets[k] j)).length ≤ (packL (repL er nums debs rets)).length := by
  refine packL_pre (b := (rets[k].lots.drop j).flatMap Lo.nums ++ (rets.drop (k + 1)).flatMap Rn.nums) ?_
  have h1 : pre3 rets[k] j ++ (rets[k].lots.drop j).flatMap Lo.nums = rets[k].nums := by
    unfold pre3 Rn.nums rnums
    rw [← flat_split Lo.nums rets[k].lots j]
    simp
  rw [List.append_assoc, ← List.append_assoc (pre3 _ _), h1]
  unfold pre2 pre1 pre0 repL
  rw [← flat_split Rn.nums rets k, List.drop_eq_getElem_cons hk, List.take_length, List.flatMap_cons]
  simp
set_option maxHeartbeats 32000000 in
set_option maxRecDepth 100000 in
theorem rencrep34 (er : Int) (A1 A2 A3 : Option Addr) (k1 k2 k3 : Nat) (nums : List Int) (debs : List Db) (rets : List Rn) (w : World) (he : In64p er) (hn : nums.length ≤ 1000) (h6 : ∀ x ∈ nums, In64p x) (hs1 : Sl w A1 (ints .i64 nums)) (hd : debs.length ≤ 5000) (hd6 : ∀ x ∈ debs, x.in64) (hs2 : Sl w A2 (rc Db.cells debs)) (hr : rets.length ≤ 5000) (hr6 : ∀ x ∈ rets, x.pl.in64 ∧ Sl w x.A (rc Lo.cells x.lots)) (hs3 : Sl w A3 (rc Rn.cells rets)) (hT : (packL (repL er nums debs rets)).length ≤ 900000) :
    Calls Try.prog 22 #[.agg #[.int .i64 er, .slice A1 nums.length k1, .slice A2 debs.length k2, .slice A3 rets.length k3]] w fun e w' => BRow w.heap.size w' e (packL (repL er nums debs rets)) ∧ Below w.heap.size w w' := by
  obtain ⟨b, hb⟩ : ∃ b, w.heap.size = b := ⟨_, rfl⟩
  have HBE := Lib.hid hb
  have HS : Hid (∀ V, Below b w V → Sl V A1 (ints .i64 nums) ∧ (∀ k, (hk : k < debs.length) → ∃ p o, A2 = some ⟨p, o, none⟩ ∧ V.cell? ⟨p, o + k * 5, none⟩ = some (.int .i64 debs[k].a) ∧ V.cell? ⟨p, o + k * 5 + 1, none⟩ = some (.int .i64 debs[k].b) ∧ V.cell? ⟨p, o + k * 5 + 2, none⟩ = some (.int .i64 debs[k].c) ∧ V.cell? ⟨p, o + k * 5 + 3, none⟩ = some (.int .i64 debs[k].d) ∧ V.cell? ⟨p, o + k * 5 + 4, none⟩ = some (.int .i64 debs[k].q)) ∧ (∀ k, (hk : k < rets.length) → ∃ p o, A3 = some ⟨p, o, none⟩ ∧ (V.cell? ⟨p, o + k * 4, none⟩ = some (.int .i64 rets[k].a) ∧ V.cell? ⟨p, o + k * 4 + 1, none⟩ = some (.int .i64 rets[k].b) ∧ V.cell? ⟨p, o + k * 4 + 2, none⟩ = some (.int .i64 rets[k].q) ∧ V.cell? ⟨p, o + k * 4 + 3, none⟩ = some (.slice rets[k].A rets[k].lots.length rets[k].c)) ∧ Sl V rets[k].A (rc Lo.cells rets[k].lots))) := Lib.hid fun V hV => by
    have hV2 : Below w.heap.size w V := by rw [hb]; exact hV
    refine ⟨hs1.below hV2, fun k hk => ?_, fun k hk => ?_⟩
    · obtain ⟨p, o, e, _, hc⟩ := Sl.elem (m := 5) (fun x => rfl) (by decide) (hs2.below hV2) hk
      exact ⟨p, o, e, hc 0 _ rfl, hc 1 _ rfl, hc 2 _ rfl, hc 3 _ rfl, hc 4 _ rfl⟩
    · obtain ⟨p, o, e, _, hc⟩ := Sl.elem (m := 4) (fun x => rfl) (by decide) (hs3.below hV2) hk
      exact ⟨p, o, e, ⟨hc 0 _ rfl, hc 1 _ rfl, hc 2 _ rfl, hc 3 _ rfl⟩, (hr6 _ (List.getElem_mem hk)).2.below hV2⟩
  have HR6 : Hid (∀ k, (hk : k < rets.length) → rets[k].pl.in64) := Lib.hid fun k hk => (hr6 _ (List.getElem_mem hk)).1
  have HL1 : Hid (∀ k, (packL (pre1 er nums debs k)).length ≤ 900000) := Lib.hid fun k => Nat.le_trans (pre1_len er nums debs rets k) hT
  have HL2 : Hid (∀ k, (packL (pre2 er nums debs rets k)).length ≤ 900000) := Lib.hid fun k => Nat.le_trans (pre2_len er nums debs rets k) hT
  have HL3 : Hid (∀ k j, (hk : k < rets.length) → (packL (pre2 er nums debs rets k ++ pre3 rets[k] j)).length ≤ 900000) := Lib.hid fun k j hk => Nat.le_trans (pre3_len er nums debs rets k j hk) hT
  have H6 := Lib.hid h6
  have HD6 := Lib.hid hd6
  have HE6 := Lib.hid he
  have hB0 : Below b w (w.alloc (.cells #[.int .i64 er, .slice A1 nums.length k1, .slice A2 debs.length k2, .slice A3 rets.length k3] 50)) := by rw [← hb]; exact since_alloc (Below.refl _ w) _
  have hx0 : (w.alloc (.cells #[.int .i64 er, .slice A1 nums.length k1, .slice A2 debs.length k2, .slice A3 rets.length k3] 50)).heap[b]? = some (.cells #[.int .i64 er, .slice A1 nums.length k1, .slice A2 debs.length k2, .slice A3 rets.length k3] 50 (0, 0)) := by rw [← hb]; exact heap_alloc_new w _
  have hsz0 : b ≤ (w.alloc (.cells #[.int .i64 er, .slice A1 nums.length k1, .slice A2 debs.length k2, .slice A3 rets.length k3] 50)).heap.size := by rw [World.size_alloc]; omega
  rw [hb]
  clear hs1 hs2 hs3 hr6 h6 hd6 he hT hb
  go_enter Try.func22, Try.ntmps22
  go_upto_region 1 with fail
  rw [HBE.out]
  generalize w.alloc (.cells #[.int .i64 er, .slice A1 nums.length k1, .slice A2 debs.length k2, .slice A3 rets.length k3] 50) = W1 at *
  have HXB : Hid (∀ V, Chg W1.heap.size none W1 V → V.heap[b]? = some (.cells #[.int .i64 er, .slice A1 nums.length k1, .slice A2 debs.length k2, .slice A3 rets.length k3] 50 (0, 0))) := Lib.hid fun V hC => own_keep34 (A := none) (c := 0) (bs := []) (own_nil b _ _) hC hx0 (fun cs t f e => by injection e with _ e2 _; subst e2; decide)
  have HBW : Hid (∀ V, Chg W1.heap.size none W1 V → Below b w V) := Lib.hid fun V hC => hB0.trans (own_old34 (A := none) (c := 0) (bs := []) (own_nil b _ _) hsz0 hC)
  have HW0 : Hid (∀ V : World, W1.heap.size ≤ V.heap.size → b ≤ V.heap.size) := Lib.hid fun V h => Nat.le_trans hsz0 h
  have hR0 : Rt b none none 0 [] W1 W1 := Rt.refl (A := none) (c := 0) (bs := []) (own_nil b _ _)
  have H0 := Lib.hid hR0
  have HLN0 : Hid (([] : List Nat).length ≤ 0) := Lib.hid (Nat.le_refl 0)
  clear hB0 hR0 hsz0
  have hx0 := HXB.out _ (Chg.refl _ _ _)
  have r0 : W1.cell? ⟨b, 0, none⟩ = some (.int .i64 er) := (cell_of_row W1 b 0 _ _ (0, 0) hx0).trans rfl
  have r1 : W1.cell? ⟨b, 1, none⟩ = some (.slice A1 nums.length k1) := (cell_of_row W1 b 1 _ _ (0, 0) hx0).trans rfl
  have r2 : W1.cell? ⟨b, 2, none⟩ = some (.slice A2 debs.length k2) := (cell_of_row W1 b 2 _ _ (0, 0) hx0).trans rfl
  have r3 : W1.cell? ⟨b, 3, none⟩ = some (.slice A3 rets.length k3) := (cell_of_row W1 b 3 _ _ (0, 0) hx0).trans rfl
  have rl := (Array.getElem?_eq_some_iff.1 hx0).1
  have hal := since_alloc (Below.refl _ W1) (.cells #[.int .i64 er, .int .i64 (nums.length : Int)] 3)
  have HNU := Lib.hid (rnumsW b none 0 [] (some ⟨W1.heap.size, 0, none⟩) 2 [er, (nums.length : Int)] (W1.alloc (.cells #[.int .i64 er, .int .i64 (nums.length : Int)] 3)) (own_below H0.out.own hal) (Nat.le_trans (HW0.out _ H0.out.chg.size) hal.size) (by simp) (by first | (simp; done) | (simp; have := HLN0.out; omega)) (fun x hx => by
    rcases List.mem_cons.1 hx with rfl | hx
    · exact HE6.out
    · rw [List.mem_singleton.1 hx]; unfold In64p; omega) (Sl.new_ _ _ _) (fun b3 o3 e _ e2 => by
    injection e with e
    injection e with e _
    subst e
    exact own_newB H0.out.own (Nat.le_refl _) e2))
  have H0b := Lib.hid (H0.out.below hal)
  clear hal
  go_wp2_with fail
  refine HNU.out.mono ?_
  rintro e v1 ⟨B1, c1, rfl, hWn⟩
  have hWn := H0b.out.trans hWn
  obtain ⟨N1, hBn⟩ : ∃ N1, [] ++ packL [er, (nums.length : Int)] = N1 := ⟨_, rfl⟩
  have HEN1 := Lib.hid hBn
  rw [hBn] at hWn ⊢
  have HLN1 : Hid (N1.length ≤ 0 + 20) := Lib.hid (by
    have h1 : (packL [er, (nums.length : Int)]).length ≤ 20 := packL_le (l := [er, (nums.length : Int)]) (fun x hx => by
    rcases List.mem_cons.1 hx with rfl | hx
    · exact HE6.out
    · rw [List.mem_singleton.1 hx]; unfold In64p; omega)
    rw [← hBn, List.nil_append]; omega)
  have H1 := Lib.hid hWn
  clear hBn hWn HNU H0b
  clear r0 r1 r2 r3 rl
  have hx1 := HXB.out _ H1.out.chg
  have r0 : v1.cell? ⟨b, 0, none⟩ = some (.int .i64 er) := (cell_of_row v1 b 0 _ _ (0, 0) hx1).trans rfl
  have r1 : v1.cell? ⟨b, 1, none⟩ = some (.slice A1 nums.length k1) := (cell_of_row v1 b 1 _ _ (0, 0) hx1).trans rfl
  have r2 : v1.cell? ⟨b, 2, none⟩ = some (.slice A2 debs.length k2) := (cell_of_row v1 b 2 _ _ (0, 0) hx1).trans rfl
  have r3 : v1.cell? ⟨b, 3, none⟩ = some (.slice A3 rets.length k3) := (cell_of_row v1 b 3 _ _ (0, 0) hx1).trans rfl
  have rl := (Array.getElem?_eq_some_iff.1 hx1).1
  have HI := Lib.hid (rpints_any A1 k1 nums v1 hn H6.out (HS.out _ (HBW.out _ H1.out.chg)).1)
  have hQ10 : (packL nums).length ≤ 10 * nums.length := packL_le H6.out
  obtain ⟨Q, hQ⟩ : ∃ Q, packL nums = Q := ⟨_, rfl⟩
  rw [hQ] at HI hQ10
  have HQ := Lib.hid hQ
  clear hQ
  go_wp2_with fail
  refine HI.out.mono ?_
  rintro e w2 ⟨⟨Ai, ci, rfl, own3⟩, hb2⟩
  have hq := Sl.of_own own3
  have hW3 := H1.out.below hb2
  have hszW2 : b ≤ w2.heap.size := Nat.le_trans (HW0.out _ H1.out.chg.size) hb2.size
  have hBL : N1.length ≤ 999000 := by have := HLN1.out; have := HLN0.out; omega
  clear HI hb2 own3
  go_upto_region 3 with (first
    | (at_builtin; refine wpList_app3 rfl (.tmp 16) (.tmp 19) rfl EU8 rfl rfl hW3.own (m := Q.length) (by rw [by8_length, Nat.mul_one]) hq (by8_one _) (by unfold maxLen; omega) (by omega) hszW2 ?_; intro B2 c2 v2 own5 hg5 hv5 hb5)
    | fail)
  have hR := hW3.trans (Rt.of_app (bs2 := N1 ++ Q) hW3.own hg5 (by rw [List.length_append, by8_append]; exact own5) (by rw [List.length_append]; exact hv5))
  rw [show N1.length + Q.length = (N1 ++ Q).length from (List.length_append ..).symm]
  obtain ⟨N2, hBn⟩ : ∃ N2, N1 ++ Q = N2 := ⟨_, rfl⟩
  have HEN2 : Hid (packL (pre0 er nums) = N2) := Lib.hid (by
    have h1 := HEN1.out
    rw [List.nil_append] at h1
    rw [← hBn, ← HQ.out, ← h1, ← packL_append]; rfl)
  have HLN2 : Hid (N2.length ≤ 15000) := Lib.hid (by have := HLN1.out; have := HLN0.out; rw [← hBn, List.length_append]; omega)
  rw [hBn] at hR ⊢
  have H2 := Lib.hid hR
  clear r0 r1 r2 r3 rl
  clear hBn hR hW3 hq hszW2 hBL own5 hg5 hv5 hb5 hQ10 HQ H1 H0 hx1 hx0
  have hx1 := HXB.out _ H2.out.chg
  have r0 : v2.cell? ⟨b, 0, none⟩ = some (.int .i64 er) := (cell_of_row v2 b 0 _ _ (0, 0) hx1).trans rfl
  have r1 : v2.cell? ⟨b, 1, none⟩ = some (.slice A1 nums.length k1) := (cell_of_row v2 b 1 _ _ (0, 0) hx1).trans rfl
  have r2 : v2.cell? ⟨b, 2, none⟩ = some (.slice A2 debs.length k2) := (cell_of_row v2 b 2 _ _ (0, 0) hx1).trans rfl
  have r3 : v2.cell? ⟨b, 3, none⟩ = some (.slice A3 rets.length k3) := (cell_of_row v2 b 3 _ _ (0, 0) hx1).trans rfl
  have rl := (Array.getElem?_eq_some_iff.1 hx1).1
  have hal := since_alloc (Below.refl _ v2) (.cells #[.int .i64 (debs.length : Int)] 3)
  have HNU := Lib.hid (rnumsW b B2 c2 N2 (some ⟨v2.heap.size, 0, none⟩) 1 [(debs.length : Int)] (v2.alloc (.cells #[.int .i64 (debs.length : Int)] 3)) (own_below H2.out.own hal) (Nat.le_trans (HW0.out _ H2.out.chg.size) hal.size) (by simp) (by first | (simp; done) | (simp; have := HLN2.out; omega)) (fun x hx => by
    rw [List.mem_singleton.1 hx]; unfold In64p; omega) (Sl.new_ _ _ _) (fun b3 o3 e _ e2 => by
    injection e with e
    injection e with e _
    subst e
    exact own_newB H2.out.own (Nat.le_refl _) e2))
  have H2b := Lib.hid (H2.out.below hal)
  clear hal
  go_wp2_with fail
  refine HNU.out.mono ?_
  rintro e v3 ⟨B3, c3, rfl, hWn⟩
  have hWn := H2b.out.trans hWn
  obtain ⟨N3, hBn⟩ : ∃ N3, N2 ++ packL [(debs.length : Int)] = N3 := ⟨_, rfl⟩
  have HEN3 := Lib.hid hBn
  rw [hBn] at hWn ⊢
  have HLN3 : Hid (N3.length ≤ N2.length + 10) := Lib.hid (by
    have h1 : (packL [(debs.length : Int)]).length ≤ 10 := packL_le (l := [(debs.length : Int)]) (fun x hx => by
    rw [List.mem_singleton.1 hx]; unfold In64p; omega)
    rw [← hBn, List.length_append]; omega)
  have H3 := Lib.hid hWn
  clear hBn hWn HNU H2b
  clear r0 r1 r2 r3 rl
  have HEP3 : Hid (packL (pre1 er nums debs 0) = N3) := Lib.hid (by
    rw [← HEN3.out, ← HEN2.out, ← packL_append]; rfl)
  clear H2 hx1
  go_wp2_with fail
  go_loopw [3, 4, 5] (fun bv iv xv wr => ∃ (k : Nat) (Ax : Option Addr) (cx : Nat), k ≤ debs.length ∧ iv = .int .i64 (k : Int) ∧ bv = .slice Ax (packL (pre1 er nums debs k)).length cx ∧ Rt b none Ax cx (packL (pre1 er nums debs k)) W1 wr) (fun _ iv _ _ => debs.length - (intOf iv).toNat)
  case atStart => exact ⟨0, B3, c3, by omega, rfl, by rw [HEP3.out], by rw [HEP3.out]; exact H3.out⟩
  case round =>
    clear H3 HEP3
    obtain ⟨k, Ax, cx, hk, rfl, rfl, hW⟩ := hrel
    have hxr := HXB.out _ hW.chg
    obtain ⟨q1, q2, q3⟩ := HS.out _ (HBW.out _ hW.chg)
    by_cases hkl : k < debs.length
    · have hk1 : (k : Int) < (debs.length : Int) := by omega
      have hk0 : (0 : Int) ≤ (k : Int) := by omega
      obtain ⟨p, po, hA2, hce⟩ := q2 k hkl
      clear q1 q2 q3
      have hin := HD6.out _ (List.getElem_mem hkl)
      have hTK : debs.take (k + 1) = debs.take k ++ [debs[k]] := take_snoc debs k hkl
      obtain ⟨x, hxe⟩ : ∃ x, debs[k] = x := ⟨_, rfl⟩
      rw [hxe] at hce hin hTK
      obtain ⟨va, vb, vc, vd, vq⟩ := x
      simp only at hce
      obtain ⟨ha, hb_, hc_, hd_, hq_⟩ := hce
      obtain ⟨ia, ib, ic, id_, iq⟩ := hin
      simp only at ia ib ic id_ iq
      have HIN : Hid (In64p va ∧ In64p vb ∧ In64p vc ∧ In64p vd ∧ In64p vq) := Lib.hid ⟨ia, ib, ic, id_, iq⟩
      have HTK : Hid (packL (pre1 er nums debs (k + 1)) = packL (pre1 er nums debs k) ++ packL [va, vb, vc, vd] ++ packL [vq]) := Lib.hid (by
        unfold pre1
        rw [hTK, List.flatMap_append, List.append_assoc, ← packL_append, ← packL_append]
        simp [Db.nums])
      have hBL := HL1.out k
      obtain ⟨P0, hP0⟩ : ∃ P0, packL (pre1 er nums debs k) = P0 := ⟨_, rfl⟩
      rw [hP0] at hW HTK hBL ⊢
      have HLP0 := Lib.hid hBL
      subst hA2
      have hal := since_alloc (Below.refl _ wr) (.cells #[.int .i64 va, .int .i64 vb, .int .i64 vc, .int .i64 vd, .int .i64 vq] 94)
      have hbx := heap_alloc_new wr (.cells #[.int .i64 va, .int .i64 vb, .int .i64 vc, .int .i64 vd, .int .i64 vq] 94)
      have hsz := World.size_alloc wr (.cells #[.int .i64 va, .int .i64 vb, .int .i64 vc, .int .i64 vd, .int .i64 vq] 94)
      obtain ⟨XB, hXB⟩ : ∃ XB, wr.heap.size = XB := ⟨_, rfl⟩
      have HXBE := Lib.hid hXB
      obtain ⟨W5, hW5⟩ : ∃ W5, wr.alloc (.cells #[.int .i64 va, .int .i64 vb, .int .i64 vc, .int .i64 vd, .int .i64 vq] 94) = W5 := ⟨_, rfl⟩
      have HW5E := Lib.hid hW5
      have hW5r := hW.below hal
      rw [hW5] at hW5r hbx
      rw [hXB] at hbx
      have HABS := Lib.hid hW5r
      have HSZ5 : Hid (b ≤ W5.heap.size) := Lib.hid (HW0.out _ hW5r.chg.size)
      have HB5 : Hid (∀ V, Chg W5.heap.size (ob Ax P0 cx) W5 V → V.heap[XB]? = some (.cells #[.int .i64 va, .int .i64 vb, .int .i64 vc, .int .i64 vd, .int .i64 vq] 94 (0, 0))) := Lib.hid fun V hC => own_keep34 hW5r.own hC hbx (fun cs t f e => by injection e with _ e2 _; subst e2; decide)
      have HW1 : Hid (∀ V : World, W5.heap.size ≤ V.heap.size → b ≤ V.heap.size) := Lib.hid fun V h => Nat.le_trans HSZ5.out h
      have h50 : Rt b (ob Ax P0 cx) Ax cx P0 W5 W5 := Rt.refl hW5r.own
      have K0 := Lib.hid h50
      have hb5 := HB5.out _ (Chg.refl _ _ _)
      clear hTK hxe ia ib ic id_ iq hW hal hsz hXB hW5 hW5r hbx h50 hBL hP0
      have r2 : wr.cell? ⟨b, 2, none⟩ = some (.slice (some ⟨p, po, none⟩) debs.length k2) := (cell_of_row wr b 2 _ _ (0, 0) hxr).trans rfl
      have rl := (Array.getElem?_eq_some_iff.1 hxr).1
      go_upto_region 8 with fail
      rw [HW5E.out, HXBE.out]
      clear r2 rl
      clear ha hb_ hc_ hd_ hq_ hxr
      have d0 : W5.cell? ⟨XB, 0, none⟩ = some (.int .i64 va) := (cell_of_row W5 XB 0 _ _ (0, 0) hb5).trans rfl
      have d1 : W5.cell? ⟨XB, 1, none⟩ = some (.int .i64 vb) := (cell_of_row W5 XB 1 _ _ (0, 0) hb5).trans rfl
      have d2 : W5.cell? ⟨XB, 2, none⟩ = some (.int .i64 vc) := (cell_of_row W5 XB 2 _ _ (0, 0) hb5).trans rfl
      have d3 : W5.cell? ⟨XB, 3, none⟩ = some (.int .i64 vd) := (cell_of_row W5 XB 3 _ _ (0, 0) hb5).trans rfl
      have d4 : W5.cell? ⟨XB, 4, none⟩ = some (.int .i64 vq) := (cell_of_row W5 XB 4 _ _ (0, 0) hb5).trans rfl
      have dl := (Array.getElem?_eq_some_iff.1 hb5).1
      have hal := since_alloc (Below.refl _ W5) (.cells #[.int .i64 va, .int .i64 vb, .int .i64 vc, .int .i64 vd] 3)
      have HNU := Lib.hid (rnumsW b Ax cx P0 (some ⟨W5.heap.size, 0, none⟩) 4 [va, vb, vc, vd] (W5.alloc (.cells #[.int .i64 va, .int .i64 vb, .int .i64 vc, .int .i64 vd] 3)) (own_below K0.out.own hal) (Nat.le_trans (HW1.out _ K0.out.chg.size) hal.size) (by simp) (by first | (simp; done) | (simp; have := HLP0.out; omega)) (fun x hx => by
        obtain ⟨i1, i2, i3, i4, i5⟩ := HIN.out
        simp only [List.mem_cons, List.not_mem_nil, or_false] at hx
        rcases hx with rfl | rfl | rfl | rfl <;> assumption) (Sl.new_ _ _ _) (fun b3 o3 e _ e2 => by
        injection e with e
        injection e with e _
        subst e
        exact own_newB K0.out.own (Nat.le_refl _) e2))
      have K0b := Lib.hid (K0.out.below hal)
      clear hal
      go_wp2_with fail
      refine HNU.out.mono ?_
      rintro e v1 ⟨Bx1, cx1, rfl, hWn⟩
      have hWn := K0b.out.trans hWn
      obtain ⟨P1, hBn⟩ : ∃ P1, P0 ++ packL [va, vb, vc, vd] = P1 := ⟨_, rfl⟩
      have HEP1 := Lib.hid hBn
      rw [hBn] at hWn ⊢
      have HLP1 : Hid (P1.length ≤ P0.length + 40) := Lib.hid (by
        have h1 : (packL [va, vb, vc, vd]).length ≤ 40 := packL_le (l := [va, vb, vc, vd]) (fun x hx => by
        obtain ⟨i1, i2, i3, i4, i5⟩ := HIN.out
        simp only [List.mem_cons, List.not_mem_nil, or_false] at hx
        rcases hx with rfl | rfl | rfl | rfl <;> assumption)
        rw [← hBn, List.length_append]; omega)
      have K1 := Lib.hid hWn
      clear hBn hWn HNU K0b
      clear d0 d1 d2 d3 d4 dl
      have hb6 := HB5.out _ K1.out.chg
      have d0 : v1.cell? ⟨XB, 0, none⟩ = some (.int .i64 va) := (cell_of_row v1 XB 0 _ _ (0, 0) hb6).trans rfl
      have d1 : v1.cell? ⟨XB, 1, none⟩ = some (.int .i64 vb) := (cell_of_row v1 XB 1 _ _ (0, 0) hb6).trans rfl
      have d2 : v1.cell? ⟨XB, 2, none⟩ = some (.int .i64 vc) := (cell_of_row v1 XB 2 _ _ (0, 0) hb6).trans rfl
      have d3 : v1.cell? ⟨XB, 3, none⟩ = some (.int .i64 vd) := (cell_of_row v1 XB 3 _ _ (0, 0) hb6).trans rfl
      have d4 : v1.cell? ⟨XB, 4, none⟩ = some (.int .i64 vq) := (cell_of_row v1 XB 4 _ _ (0, 0) hb6).trans rfl
      have dl := (Array.getElem?_eq_some_iff.1 hb6).1
      have HLP1 : Hid (P1.length ≤ 900100) := Lib.hid (by have := HLP1.out; have := HLP0.out; omega)
      have hq6 : In64p vq := HIN.out.2.2.2.2
      have HI := Lib.hid (rpint_any vq hq6 v1)
      have hQ10 : (packI vq).length ≤ 10 := vb_len10 (zz_lt hq6)
      obtain ⟨Q, hQ⟩ : ∃ Q, packI vq = Q := ⟨_, rfl⟩
      rw [hQ] at HI hQ10
      have HQ := Lib.hid hQ
      clear hQ
      go_wp2_with fail
      refine HI.out.mono ?_
      rintro e w2 ⟨⟨Ai, ci, rfl, own3⟩, hb2⟩
      have hq := Sl.of_own own3
      have hW3 := K1.out.below hb2
      have hszW2 : b ≤ w2.heap.size := Nat.le_trans (HW1.out _ K1.out.chg.size) hb2.size
      have hBL : P1.length ≤ 999000 := by have := HLP1.out; omega
      clear HI hb2 own3
      go_wp2_with (first
        | (at_builtin; refine wpList_app3 rfl (.tmp 54) (.tmp 57) rfl EU8 rfl rfl hW3.own (m := Q.length) (by rw [by8_length, Nat.mul_one]) hq (by8_one _) (by unfold maxLen; omega) (by omega) hszW2 ?_; intro Bx2 cx2 v2 own5 hg5 hv5 hb5)
        | fail)
      have hR := hW3.trans (Rt.of_app (bs2 := P1 ++ Q) hW3.own hg5 (by rw [List.length_append, by8_append]; exact own5) (by rw [List.length_append]; exact hv5))
      rw [show P1.length + Q.length = (P1 ++ Q).length from (List.length_append ..).symm]
      obtain ⟨P2, hBn⟩ : ∃ P2, P1 ++ Q = P2 := ⟨_, rfl⟩
      have HEP2 : Hid (P1 ++ packL [vq] = P2) := Lib.hid (by rw [packL_one, HQ.out]; exact hBn)
      have HLP2 : Hid (P2.length ≤ P1.length + 10) := Lib.hid (by rw [← hBn, List.length_append]; omega)
      rw [hBn] at hR ⊢
      have K2 := Lib.hid hR
      clear hBn hR hW3 hq hszW2 hBL own5 hg5 hv5 hb5 hQ10 HQ
      clear d0 d1 d2 d3 d4 dl
      have hF := HABS.out.trans K2.out
      have hPF : packL (pre1 er nums debs (k + 1)) = P2 := by rw [HTK.out, HEP1.out, HEP2.out]
      clear K0 K1 K2 hb5 hb6 hq6
      go_roundw
      case rel => exact ⟨k + 1, Bx2, cx2, by omega, by go_num, by rw [hPF], by rw [hPF]; exact hF⟩
      case measure => simp [intOf]; omega
    · obtain rfl : k = debs.length := by omega
      clear q1 q2 q3
      have hBL := HL1.out debs.length
      obtain ⟨N4, hN4⟩ : ∃ N4, packL (pre1 er nums debs debs.length) = N4 := ⟨_, rfl⟩
      rw [hN4] at hW hBL ⊢
      have HEN4 := Lib.hid hN4
      have HLN4 := Lib.hid hBL
      have H4 := Lib.hid hW
      clear hN4 hBL hW
      have r0 : wr.cell? ⟨b, 0, none⟩ = some (.int .i64 er) := (cell_of_row wr b 0 _ _ (0, 0) hxr).trans rfl
      have r1 : wr.cell? ⟨b, 1, none⟩ = some (.slice A1 nums.length k1) := (cell_of_row wr b 1 _ _ (0, 0) hxr).trans rfl
      have r2 : wr.cell? ⟨b, 2, none⟩ = some (.slice A2 debs.length k2) := (cell_of_row wr b 2 _ _ (0, 0) hxr).trans rfl
      have r3 : wr.cell? ⟨b, 3, none⟩ = some (.slice A3 rets.length k3) := (cell_of_row wr b 3 _ _ (0, 0) hxr).trans rfl
      have rl := (Array.getElem?_eq_some_iff.1 hxr).1
      have hal := since_alloc (Below.refl _ wr) (.cells #[.int .i64 (rets.length : Int)] 3)
      have HNU := Lib.hid (rnumsW b Ax cx N4 (some ⟨wr.heap.size, 0, none⟩) 1 [(rets.length : Int)] (wr.alloc (.cells #[.int .i64 (rets.length : Int)] 3)) (own_below H4.out.own hal) (Nat.le_trans (HW0.out _ H4.out.chg.size) hal.size) (by simp) (by first | (simp; done) | (simp; have := HLN4.out; omega)) (fun x hx => by
        rw [List.mem_singleton.1 hx]; unfold In64p; omega) (Sl.new_ _ _ _) (fun b3 o3 e _ e2 => by
        injection e with e
        injection e with e _
        subst e
        exact own_newB H4.out.own (Nat.le_refl _) e2))
      have H4b := Lib.hid (H4.out.below hal)
      clear hal
      go_wp2_with fail
      refine HNU.out.mono ?_
      rintro e v5 ⟨B5, c5, rfl, hWn⟩
      have hWn := H4b.out.trans hWn
      obtain ⟨N5, hBn⟩ : ∃ N5, N4 ++ packL [(rets.length : Int)] = N5 := ⟨_, rfl⟩
      have HEN5 := Lib.hid hBn
      rw [hBn] at hWn ⊢
      have HLN5 : Hid (N5.length ≤ N4.length + 10) := Lib.hid (by
        have h1 : (packL [(rets.length : Int)]).length ≤ 10 := packL_le (l := [(rets.length : Int)]) (fun x hx => by
        rw [List.mem_singleton.1 hx]; unfold In64p; omega)
        rw [← hBn, List.length_append]; omega)
      have H5 := Lib.hid hWn
      clear hBn hWn HNU H4b
      clear r0 r1 r2 r3 rl
      have HEP5 : Hid (packL (pre2 er nums debs rets 0) = N5) := Lib.hid (by
        rw [← HEN5.out, ← HEN4.out, ← packL_append]; rfl)
      clear H4 hxr
      go_wp2_with fail
      go_loopw [3, 6, 7, 8] (fun bv iv xv jv wr => ∃ (k : Nat) (Ax : Option Addr) (cx : Nat), k ≤ rets.length ∧ iv = .int .i64 (k : Int) ∧ bv = .slice Ax (packL (pre2 er nums debs rets k)).length cx ∧ Rt b none Ax cx (packL (pre2 er nums debs rets k)) W1 wr) (fun _ iv _ _ _ => rets.length - (intOf iv).toNat)
      case atStart => exact ⟨0, B5, c5, by omega, rfl, by rw [HEP5.out], by rw [HEP5.out]; exact H5.out⟩
      case round =>
        clear H5 HEP5
        obtain ⟨k, Ax, cx, hk, rfl, rfl, hW⟩ := hrel
        have hxr := HXB.out _ hW.chg
        obtain ⟨q1, q2, q3⟩ := HS.out _ (HBW.out _ hW.chg)
        by_cases hkl : k < rets.length
        · have hk1 : (k : Int) < (rets.length : Int) := by omega
          have hk0 : (0 : Int) ≤ (k : Int) := by omega
          obtain ⟨p, po, hA3, hce, _⟩ := q3 k hkl
          clear q1 q2 q3
          have HSX : Hid (∀ V, Below b w V → Sl V rets[k].A (rc Lo.cells rets[k].lots)) := Lib.hid fun V hV => by
            obtain ⟨_, _, q3⟩ := HS.out _ hV
            obtain ⟨_, _, _, _, h⟩ := q3 k hkl
            exact h
          have hin := HR6.out k hkl
          have hL3 : ∀ j, (packL (pre2 er nums debs rets k ++ pre3 rets[k] j)).length ≤ 900000 := fun j => HL3.out k j hkl
          have hTK : rets.take (k + 1) = rets.take k ++ [rets[k]] := take_snoc rets k hkl
          have hT2 : packL (pre2 er nums debs rets (k + 1)) = packL (pre2 er nums debs rets k ++ pre3 rets[k] rets[k].lots.length) := by
            unfold pre2 pre3
            rw [hTK, List.flatMap_append, List.take_length]
            simp [Rn.nums, rnums]
          obtain ⟨x, hxe⟩ : ∃ x, rets[k] = x := ⟨_, rfl⟩
          rw [hxe] at hce hin hT2 HSX hL3
          obtain ⟨va, vb, vq, vA, vC, vl⟩ := x
          simp only at hce
          obtain ⟨ha, hb_, hq_, hl_⟩ := hce
          obtain ⟨ia, ib, iq, il, ill⟩ := hin
          simp only [Rn.pl] at ia ib iq il ill
          have HIN : Hid (In64p va ∧ In64p vb ∧ In64p vq) := Lib.hid ⟨ia, ib, iq⟩
          have HILL := Lib.hid ill
          have hvl : vl.length ≤ 4096 := by omega
          have HT2 := Lib.hid hT2
          have HL3' := Lib.hid hL3
          have HSL : Hid (∀ V, Below b w V → ∀ j, (hj : j < vl.length) → ∃ lb lo, vA = some ⟨lb, lo, none⟩ ∧ V.cell? ⟨lb, lo + j * 3, none⟩ = some (.int .i64 vl[j].a) ∧ V.cell? ⟨lb, lo + j * 3 + 1, none⟩ = some (.int .i64 vl[j].b) ∧ V.cell? ⟨lb, lo + j * 3 + 2, none⟩ = some (.int .i64 vl[j].q) ∧ lb < V.heap.size) := Lib.hid fun V hV j hj => by
            obtain ⟨lb, lo, e, hlt, hc⟩ := Sl.elem (m := 3) (fun x => rfl) (by decide) (HSX.out V hV) hj
            exact ⟨lb, lo, e, hc 0 _ rfl, hc 1 _ rfl, hc 2 _ rfl, hlt⟩
          have hBL := HL2.out k
          obtain ⟨P0, hP0⟩ : ∃ P0, packL (pre2 er nums debs rets k) = P0 := ⟨_, rfl⟩
          rw [hP0] at hW hBL ⊢
          have HP0 := Lib.hid hP0
          have HLP0 := Lib.hid hBL
          subst hA3
          have hal := since_alloc (Below.refl _ wr) (.cells #[.int .i64 va, .int .i64 vb, .int .i64 vq, .slice vA vl.length vC] 97)
          have hbx := heap_alloc_new wr (.cells #[.int .i64 va, .int .i64 vb, .int .i64 vq, .slice vA vl.length vC] 97)
          obtain ⟨XB, hXB⟩ : ∃ XB, wr.heap.size = XB := ⟨_, rfl⟩
          have HXBE := Lib.hid hXB
          obtain ⟨W5, hW5⟩ : ∃ W5, wr.alloc (.cells #[.int .i64 va, .int .i64 vb, .int .i64 vq, .slice vA vl.length vC] 97) = W5 := ⟨_, rfl⟩
          have HW5E := Lib.hid hW5
          have hW5r := hW.below hal
          rw [hW5] at hW5r hbx
          rw [hXB] at hbx
          have HABS := Lib.hid hW5r
          have HSZ5 : Hid (b ≤ W5.heap.size) := Lib.hid (HW0.out _ hW5r.chg.size)
          have HB5 : Hid (∀ V, Chg W5.heap.size (ob Ax P0 cx) W5 V → V.heap[XB]? = some (.cells #[.int .i64 va, .int .i64 vb, .int .i64 vq, .slice vA vl.length vC] 97 (0, 0))) := Lib.hid fun V hC => own_keep34 hW5r.own hC hbx (fun cs t f e => by injection e with _ e2 _; subst e2; decide)
          have HBW5 : Hid (∀ A5 c5 P5 V, Rt b (ob Ax P0 cx) A5 c5 P5 W5 V → Below b w V) := Lib.hid fun A5 c5 P5 V h => HBW.out _ (HABS.out.trans h).chg
          have HW1 : Hid (∀ V : World, W5.heap.size ≤ V.heap.size → b ≤ V.heap.size) := Lib.hid fun V h => Nat.le_trans HSZ5.out h
          have h50 : Rt b (ob Ax P0 cx) Ax cx P0 W5 W5 := Rt.refl hW5r.own
          have K0 := Lib.hid h50
          have hb5 := HB5.out _ (Chg.refl _ _ _)
          clear hTK hxe ia ib iq ill hW hal hXB hW5 hW5r hbx h50 hBL hP0 hT2 hL3 HSX il
          have r3 : wr.cell? ⟨b, 3, none⟩ = some (.slice (some ⟨p, po, none⟩) rets.length k3) := (cell_of_row wr b 3 _ _ (0, 0) hxr).trans rfl
          have rl := (Array.getElem?_eq_some_iff.1 hxr).1
          go_upto_region 15 with fail
          rw [HW5E.out, HXBE.out]
          clear r3 rl
          clear ha hb_ hq_ hl_ hxr
          have d0 : W5.cell? ⟨XB, 0, none⟩ = some (.int .i64 va) := (cell_of_row W5 XB 0 _ _ (0, 0) hb5).trans rfl
          have d1 : W5.cell? ⟨XB, 1, none⟩ = some (.int .i64 vb) := (cell_of_row W5 XB 1 _ _ (0, 0) hb5).trans rfl
          have d2 : W5.cell? ⟨XB, 2, none⟩ = some (.int .i64 vq) := (cell_of_row W5 XB 2 _ _ (0, 0) hb5).trans rfl
          have d3 : W5.cell? ⟨XB, 3, none⟩ = some (.slice vA vl.length vC) := (cell_of_row W5 XB 3 _ _ (0, 0) hb5).trans rfl
          have dl := (Array.getElem?_eq_some_iff.1 hb5).1
          have hal := since_alloc (Below.refl _ W5) (.cells #[.int .i64 va, .int .i64 vb] 3)
          have HNU := Lib.hid (rnumsW b Ax cx P0 (some ⟨W5.heap.size, 0, none⟩) 2 [va, vb] (W5.alloc (.cells #[.int .i64 va, .int .i64 vb] 3)) (own_below K0.out.own hal) (Nat.le_trans (HW1.out _ K0.out.chg.size) hal.size) (by simp) (by first | (simp; done) | (simp; have := HLP0.out; omega)) (fun x hx => by
            obtain ⟨i1, i2, i3⟩ := HIN.out
            simp only [List.mem_cons, List.not_mem_nil, or_false] at hx
            rcases hx with rfl | rfl <;> assumption) (Sl.new_ _ _ _) (fun b3 o3 e _ e2 => by
            injection e with e
            injection e with e _
            subst e
            exact own_newB K0.out.own (Nat.le_refl _) e2))
          have K0b := Lib.hid (K0.out.below hal)
          clear hal
          go_wp2_with fail
          refine HNU.out.mono ?_
          rintro e v1 ⟨Bx1, cx1, rfl, hWn⟩
          have hWn := K0b.out.trans hWn
          obtain ⟨P1, hBn⟩ : ∃ P1, P0 ++ packL [va, vb] = P1 := ⟨_, rfl⟩
          have HEP1 := Lib.hid hBn
          rw [hBn] at hWn ⊢
          have HLP1 : Hid (P1.length ≤ P0.length + 20) := Lib.hid (by
            have h1 : (packL [va, vb]).length ≤ 20 := packL_le (l := [va, vb]) (fun x hx => by
            obtain ⟨i1, i2, i3⟩ := HIN.out
            simp only [List.mem_cons, List.not_mem_nil, or_false] at hx
            rcases hx with rfl | rfl <;> assumption)
            rw [← hBn, List.length_append]; omega)
          have K1 := Lib.hid hWn
          clear hBn hWn HNU K0b
          clear d0 d1 d2 d3 dl
          have hb6 := HB5.out _ K1.out.chg
          have d0 : v1.cell? ⟨XB, 0, none⟩ = some (.int .i64 va) := (cell_of_row v1 XB 0 _ _ (0, 0) hb6).trans rfl
          have d1 : v1.cell? ⟨XB, 1, none⟩ = some (.int .i64 vb) := (cell_of_row v1 XB 1 _ _ (0, 0) hb6).trans rfl
          have d2 : v1.cell? ⟨XB, 2, none⟩ = some (.int .i64 vq) := (cell_of_row v1 XB 2 _ _ (0, 0) hb6).trans rfl
          have d3 : v1.cell? ⟨XB, 3, none⟩ = some (.slice vA vl.length vC) := (cell_of_row v1 XB 3 _ _ (0, 0) hb6).trans rfl
          have dl := (Array.getElem?_eq_some_iff.1 hb6).1
          have HLP1 : Hid (P1.length ≤ 900100) := Lib.hid (by have := HLP1.out; have := HLP0.out; omega)
          have hq6 : In64p vq := HIN.out.2.2
          have HI := Lib.hid (rpint_any vq hq6 v1)
          have hQ10 : (packI vq).length ≤ 10 := vb_len10 (zz_lt hq6)
          obtain ⟨Q, hQ⟩ : ∃ Q, packI vq = Q := ⟨_, rfl⟩
          rw [hQ] at HI hQ10
          have HQ := Lib.hid hQ
          clear hQ
          go_wp2_with fail
          refine HI.out.mono ?_
          rintro e w2 ⟨⟨Ai, ci, rfl, own3⟩, hb2⟩
          have hq := Sl.of_own own3
          have hW3 := K1.out.below hb2
          have hszW2 : b ≤ w2.heap.size := Nat.le_trans (HW1.out _ K1.out.chg.size) hb2.size
          have hBL : P1.length ≤ 999000 := by have := HLP1.out; omega
          clear HI hb2 own3
          go_upto_region 17 with (first
            | (at_builtin; refine wpList_app3 rfl (.tmp 86) (.tmp 89) rfl EU8 rfl rfl hW3.own (m := Q.length) (by rw [by8_length, Nat.mul_one]) hq (by8_one _) (by unfold maxLen; omega) (by omega) hszW2 ?_; intro Bx2 cx2 v2 own5 hg5 hv5 hb5)
            | fail)
          have hR := hW3.trans (Rt.of_app (bs2 := P1 ++ Q) hW3.own hg5 (by rw [List.length_append, by8_append]; exact own5) (by rw [List.length_append]; exact hv5))
          rw [show P1.length + Q.length = (P1 ++ Q).length from (List.length_append ..).symm]
          obtain ⟨P2, hBn⟩ : ∃ P2, P1 ++ Q = P2 := ⟨_, rfl⟩
          have HEP2 : Hid (P1 ++ packL [vq] = P2) := Lib.hid (by rw [packL_one, HQ.out]; exact hBn)
          have HLP2 : Hid (P2.length ≤ P1.length + 10) := Lib.hid (by rw [← hBn, List.length_append]; omega)
          rw [hBn] at hR ⊢
          have K2 := Lib.hid hR
          clear hBn hR hW3 hq hszW2 hBL own5 hg5 hv5 hb5 hQ10 HQ
          clear d0 d1 d2 d3 dl
          clear hb5 hb6 hq6
          have hb6 := HB5.out _ K2.out.chg
          have d0 : v2.cell? ⟨XB, 0, none⟩ = some (.int .i64 va) := (cell_of_row v2 XB 0 _ _ (0, 0) hb6).trans rfl
          have d1 : v2.cell? ⟨XB, 1, none⟩ = some (.int .i64 vb) := (cell_of_row v2 XB 1 _ _ (0, 0) hb6).trans rfl
          have d2 : v2.cell? ⟨XB, 2, none⟩ = some (.int .i64 vq) := (cell_of_row v2 XB 2 _ _ (0, 0) hb6).trans rfl
          have d3 : v2.cell? ⟨XB, 3, none⟩ = some (.slice vA vl.length vC) := (cell_of_row v2 XB 3 _ _ (0, 0) hb6).trans rfl
          have dl := (Array.getElem?_eq_some_iff.1 hb6).1
          have HLP2 : Hid (P2.length ≤ 900200) := Lib.hid (by have := HLP2.out; have := HLP1.out; omega)
          have hal := since_alloc (Below.refl _ v2) (.cells #[.int .i64 (vl.length : Int)] 3)
          have HNU := Lib.hid (rnumsW b Bx2 cx2 P2 (some ⟨v2.heap.size, 0, none⟩) 1 [(vl.length : Int)] (v2.alloc (.cells #[.int .i64 (vl.length : Int)] 3)) (own_below K2.out.own hal) (Nat.le_trans (HW1.out _ K2.out.chg.size) hal.size) (by simp) (by first | (simp; done) | (simp; have := HLP2.out; omega)) (fun x hx => by
            rw [List.mem_singleton.1 hx]; unfold In64p; omega) (Sl.new_ _ _ _) (fun b3 o3 e _ e2 => by
            injection e with e
            injection e with e _
            subst e
            exact own_newB K2.out.own (Nat.le_refl _) e2))
          have K2b := Lib.hid (K2.out.below hal)
          clear hal
          go_wp2_with fail
          refine HNU.out.mono ?_
          rintro e v3 ⟨Bx3, cx3, rfl, hWn⟩
          have hWn := K2b.out.trans hWn
          obtain ⟨P3, hBn⟩ : ∃ P3, P2 ++ packL [(vl.length : Int)] = P3 := ⟨_, rfl⟩
          have HEP3 := Lib.hid hBn
          rw [hBn] at hWn ⊢
          have HLP3 : Hid (P3.length ≤ P2.length + 10) := Lib.hid (by
            have h1 : (packL [(vl.length : Int)]).length ≤ 10 := packL_le (l := [(vl.length : Int)]) (fun x hx => by
            rw [List.mem_singleton.1 hx]; unfold In64p; omega)
            rw [← hBn, List.length_append]; omega)
          have K3 := Lib.hid hWn
          clear hBn hWn HNU K2b
          clear d0 d1 d2 d3 dl
          have HEP3 : Hid (packL (pre2 er nums debs rets k ++ pre3 ⟨va, vb, vq, vA, vC, vl⟩ 0) = P3) := Lib.hid (by
            rw [← HEP3.out, ← HEP2.out, ← HEP1.out, ← HP0.out, ← packL_append, ← packL_append, ← packL_append]
            simp [pre3])
          clear K0 K1 K2 hb6
          go_wp2_with fail
          go_loopw [3, 8] (fun bv jv wr => ∃ (j : Nat) (Ay : Option Addr) (cy : Nat), j ≤ vl.length ∧ jv = .int .i64 (j : Int) ∧ bv = .slice Ay (packL (pre2 er nums debs rets k ++ pre3 ⟨va, vb, vq, vA, vC, vl⟩ j)).length cy ∧ Rt b (ob Ax P0 cx) Ay cy (packL (pre2 er nums debs rets k ++ pre3 ⟨va, vb, vq, vA, vC, vl⟩ j)) W5 wr) (fun _ jv _ => vl.length - (intOf jv).toNat)
          case atStart => exact ⟨0, Bx3, cx3, by omega, rfl, by rw [HEP3.out], by rw [HEP3.out]; exact K3.out⟩
          case round =>
            clear K3 HEP3
            obtain ⟨j, Ay, cy, hj, rfl, rfl, hWj⟩ := hrel
            have hbj := HB5.out _ hWj.chg
            by_cases hjl : j < vl.length
            · have hj1 : (j : Int) < (vl.length : Int) := by omega
              have hj0 : (0 : Int) ≤ (j : Int) := by omega
              have hlin := HILL.out _ (List.getElem_mem hjl)
              have hTK : vl.take (j + 1) = vl.take j ++ [vl[j]] := take_snoc vl j hjl
              have HCE : Hid (∀ V, Below b w V → ∃ lb lo, vA = some ⟨lb, lo, none⟩ ∧ V.cell? ⟨lb, lo + j * 3, none⟩ = some (.int .i64 vl[j].a) ∧ V.cell? ⟨lb, lo + j * 3 + 1, none⟩ = some (.int .i64 vl[j].b) ∧ V.cell? ⟨lb, lo + j * 3 + 2, none⟩ = some (.int .i64 vl[j].q) ∧ lb < V.heap.size) := Lib.hid fun V hV => HSL.out V hV j hjl
              obtain ⟨y, hye⟩ : ∃ y, vl[j] = y := ⟨_, rfl⟩
              rw [hye] at hlin hTK HCE
              obtain ⟨la, lt, lq⟩ := y
              obtain ⟨ja, jt, jq⟩ := hlin
              simp only at ja jt jq
              have HJN : Hid (In64p la ∧ In64p lt ∧ In64p lq) := Lib.hid ⟨ja, jt, jq⟩
              have HTJ : Hid (packL (pre2 er nums debs rets k ++ pre3 ⟨va, vb, vq, vA, vC, vl⟩ (j + 1)) = packL (pre2 er nums debs rets k ++ pre3 ⟨va, vb, vq, vA, vC, vl⟩ j) ++ packL [la, lt] ++ packL [lq]) := Lib.hid (by
                unfold pre3
                simp only [hTK]
                rw [List.flatMap_append, List.append_assoc, ← packL_append, ← packL_append]
                simp [Lo.nums])
              have hBL := HL3'.out j
              obtain ⟨M0, hM0⟩ : ∃ M0, packL (pre2 er nums debs rets k ++ pre3 ⟨va, vb, vq, vA, vC, vl⟩ j) = M0 := ⟨_, rfl⟩
              rw [hM0] at hWj HTJ hBL ⊢
              have HLM0 := Lib.hid hBL
              obtain ⟨lb, lo, hvA, -⟩ := HCE.out _ (HBW5.out _ _ _ _ hWj)
              subst hvA
              have HF : Hid (∀ V, Chg wr.heap.size (ob Ay M0 cy) wr V → V.cell? ⟨XB, 2 + 1, none⟩ = some (.slice (some ⟨lb, lo, none⟩) vl.length vC) ∧ XB < V.heap.size ∧ V.cell? ⟨lb, lo + j * 3, none⟩ = some (.int .i64 la) ∧ V.cell? ⟨lb, lo + j * 3 + 1, none⟩ = some (.int .i64 lt) ∧ V.cell? ⟨lb, lo + j * 3 + 2, none⟩ = some (.int .i64 lq) ∧ lb < V.heap.size ∧ V.heap[XB]? = some (.cells #[.int .i64 va, .int .i64 vb, .int .i64 vq, .slice (some ⟨lb, lo, none⟩) vl.length vC] 97 (0, 0))) := Lib.hid fun V hC => by
                have h1 := own_keep34 hWj.own hC hbj (fun cs t f e => by injection e with _ e2 _; subst e2; decide)
                have h2 : Below b w V := (HBW5.out _ _ _ _ hWj).trans (own_old34 hWj.own (HW1.out _ hWj.chg.size) hC)
                obtain ⟨lb2, lo2, e, c1, c2, c3, c4⟩ := HCE.out _ h2
                injection e with e
                injection e with e1 e2 _
                subst e1; subst e2
                exact ⟨(cell_of_row V XB 3 _ _ (0, 0) h1).trans rfl, (Array.getElem?_eq_some_iff.1 h1).1, c1, c2, c3, c4, h1⟩
              have HSJ : Hid (b ≤ wr.heap.size) := Lib.hid (HW1.out _ hWj.chg.size)
              have HWJ := Lib.hid hWj
              have HR0 := Lib.hid ((Rt.refl hWj.own).below (Below.refl _ wr).drew)
              have HWDS : Hid (∀ V : World, wr.heap.size ≤ V.heap.size → b ≤ V.heap.size) := Lib.hid fun V h => Nat.le_trans HSJ.out h
              clear hTK hye ja jt jq hBL hM0 hbj
              obtain ⟨t0, tl, t1, t2, t3, t4, hbj⟩ := HF.out wr (Chg.refl _ _ _)
              have d0 : wr.cell? ⟨XB, 0, none⟩ = some (.int .i64 va) := (cell_of_row wr XB 0 _ _ (0, 0) hbj).trans rfl
              have d1 : wr.cell? ⟨XB, 1, none⟩ = some (.int .i64 vb) := (cell_of_row wr XB 1 _ _ (0, 0) hbj).trans rfl
              have d2 : wr.cell? ⟨XB, 2, none⟩ = some (.int .i64 vq) := (cell_of_row wr XB 2 _ _ (0, 0) hbj).trans rfl
              have d3 : wr.cell? ⟨XB, 3, none⟩ = some (.slice (some ⟨lb, lo, none⟩) vl.length vC) := (cell_of_row wr XB 3 _ _ (0, 0) hbj).trans rfl
              have dl := (Array.getElem?_eq_some_iff.1 hbj).1
              go_upto_region 21 with fail
              clear d0 d1 d2 d3 dl
              clear t0 tl t1 t2 t3 t4 hbj hWj
              refine wp_region_held_drew (S := (fun V => Chg wr.heap.size (ob Ay M0 cy) wr V)) (by kernel_rfl) (by exact (Chg.of_below (Below.refl _ wr).drew)) (fun hHeld => ?_)
              refine wpAnyH_take (i := 0) (oi := { dst := some 104, op := _, type := _, pos := _, after := _, guard := _ }) (v := ?_) rfl (by kernel_rfl) (by kernel_rfl) (by kernel_rfl) (fun _ _ _ h => h) (Or.inl ⟨by rfl, ?_⟩) hHeld ?_
              rotate_left
              · (intro w hSw; obtain ⟨t0, tl, t1, t2, t3, t4, -⟩ := HF.out _ (hSw); go_simp <;> with_reducible rfl)
              try simp only [Act.put, List.setIfInBounds_toArray, List.set_cons_zero, List.set_cons_succ]
              refine wpAnyH_take (i := 1) (oi := { dst := some 105, op := _, type := _, pos := _, after := _, guard := _ }) (v := ?_) rfl (by kernel_rfl) (by kernel_rfl) (by kernel_rfl) (fun _ _ _ h => h) (Or.inl ⟨by rfl, ?_⟩) hHeld ?_
              rotate_left
              · (intro w hSw; obtain ⟨t0, tl, t1, t2, t3, t4, -⟩ := HF.out _ (hSw); go_simp <;> with_reducible rfl)
              try simp only [Act.put, List.setIfInBounds_toArray, List.set_cons_zero, List.set_cons_succ]
              refine wpAnyH_take (i := 2) (oi := { dst := some 106, op := _, type := _, pos := _, after := _, guard := _ }) (v := ?_) rfl (by kernel_rfl) (by kernel_rfl) (by kernel_rfl) (fun _ _ _ h => h) (Or.inl ⟨by rfl, ?_⟩) hHeld ?_
              rotate_left
              · (intro w hSw; obtain ⟨t0, tl, t1, t2, t3, t4, -⟩ := HF.out _ (hSw); go_simp <;> with_reducible rfl)
              try simp only [Act.put, List.setIfInBounds_toArray, List.set_cons_zero, List.set_cons_succ]
              refine wpAnyH_take (i := 3) (oi := { dst := some 107, op := _, type := _, pos := _, after := _, guard := _ }) (v := ?_) rfl (by kernel_rfl) (by kernel_rfl) (by kernel_rfl) (fun _ _ _ h => h) (Or.inl ⟨by rfl, ?_⟩) hHeld ?_
              rotate_left
              · (intro w hSw; obtain ⟨t0, tl, t1, t2, t3, t4, -⟩ := HF.out _ (hSw); go_simp <;> with_reducible rfl)
              try simp only [Act.put, List.setIfInBounds_toArray, List.set_cons_zero, List.set_cons_succ]
              refine wpAnyH_take (i := 4) (oi := { dst := some 108, op := _, type := _, pos := _, after := _, guard := _ }) (v := ?_) rfl (by kernel_rfl) (by kernel_rfl) (by kernel_rfl) (fun _ _ _ h => h) (Or.inl ⟨by rfl, ?_⟩) hHeld ?_
              rotate_left
              · (intro w hSw; obtain ⟨t0, tl, t1, t2, t3, t4, -⟩ := HF.out _ (hSw); go_simp <;> with_reducible rfl)
              try simp only [Act.put, List.setIfInBounds_toArray, List.set_cons_zero, List.set_cons_succ]
              refine wpAnyH_take (i := 5) (oi := { dst := some 109, op := _, type := _, pos := _, after := _, guard := _ }) (v := ?_) rfl (by kernel_rfl) (by kernel_rfl) (by kernel_rfl) (fun _ _ _ h => h) (Or.inl ⟨by rfl, ?_⟩) hHeld ?_
              rotate_left
              · (intro w hSw; obtain ⟨t0, tl, t1, t2, t3, t4, -⟩ := HF.out _ (hSw); go_simp <;> with_reducible rfl)
              try simp only [Act.put, List.setIfInBounds_toArray, List.set_cons_zero, List.set_cons_succ]
              refine wpAnyH_take (i := 6) (oi := { dst := some 110, op := _, type := _, pos := _, after := _, guard := _ }) (v := ?_) rfl (by kernel_rfl) (by kernel_rfl) (by kernel_rfl) (fun _ _ _ h => h) (Or.inl ⟨by rfl, ?_⟩) hHeld ?_
              rotate_left
              · (intro w hSw; obtain ⟨t0, tl, t1, t2, t3, t4, -⟩ := HF.out _ (hSw); go_simp <;> with_reducible rfl)
              try simp only [Act.put, List.setIfInBounds_toArray, List.set_cons_zero, List.set_cons_succ]
              refine wpAnyH_take (i := 7) (oi := { dst := some 111, op := _, type := _, pos := _, after := _, guard := _ }) (v := ?_) rfl (by kernel_rfl) (by kernel_rfl) (by kernel_rfl) (fun _ _ _ h => h) (Or.inl ⟨by rfl, ?_⟩) hHeld ?_
              rotate_left
              · (intro w hSw; obtain ⟨t0, tl, t1, t2, t3, t4, -⟩ := HF.out _ (hSw); go_simp <;> with_reducible rfl)
              try simp only [Act.put, List.setIfInBounds_toArray, List.set_cons_zero, List.set_cons_succ]
              refine wpAnyH_take (i := 8) (oi := { dst := some 112, op := _, type := _, pos := _, after := _, guard := _ }) (v := ?_) rfl (by kernel_rfl) (by kernel_rfl) (by kernel_rfl) (fun _ _ _ h => h) (Or.inl ⟨by rfl, ?_⟩) hHeld ?_
              rotate_left
              · (intro w hSw; obtain ⟨t0, tl, t1, t2, t3, t4, -⟩ := HF.out _ (hSw); go_simp <;> with_reducible rfl)
              try simp only [Act.put, List.setIfInBounds_toArray, List.set_cons_zero, List.set_cons_succ]
              refine wpAnyH_take (i := 9) (oi := { dst := some 113, op := _, type := _, pos := _, after := _, guard := _ }) (v := ?_) rfl (by kernel_rfl) (by kernel_rfl) (by kernel_rfl) (fun _ _ _ h => h) (Or.inl ⟨by rfl, ?_⟩) hHeld ?_
              rotate_left
              · (intro w hSw; obtain ⟨t0, tl, t1, t2, t3, t4, -⟩ := HF.out _ (hSw); go_simp <;> with_reducible rfl)
              try simp only [Act.put, List.setIfInBounds_toArray, List.set_cons_zero, List.set_cons_succ]
              refine wpAnyH_take (i := 10) (oi := { dst := some 114, op := _, type := _, pos := _, after := _, guard := _ }) (v := ?_) rfl (by kernel_rfl) (by kernel_rfl) (by kernel_rfl) (fun _ _ _ h => h) (Or.inl ⟨by rfl, ?_⟩) hHeld ?_
              rotate_left
              · (intro w hSw; obtain ⟨t0, tl, t1, t2, t3, t4, -⟩ := HF.out _ (hSw); go_simp <;> with_reducible rfl)
              try simp only [Act.put, List.setIfInBounds_toArray, List.set_cons_zero, List.set_cons_succ]
              refine wpAnyH_take (i := 11) (oi := { dst := some 115, op := _, type := _, pos := _, after := _, guard := _ }) (v := ?_) rfl (by kernel_rfl) (by kernel_rfl) (by kernel_rfl) (fun _ _ _ h => h) (Or.inl ⟨by rfl, ?_⟩) hHeld ?_
              rotate_left
              · (intro w hSw; obtain ⟨t0, tl, t1, t2, t3, t4, -⟩ := HF.out _ (hSw); go_simp <;> with_reducible rfl)
              try simp only [Act.put, List.setIfInBounds_toArray, List.set_cons_zero, List.set_cons_succ]
              refine wpAnyH_take (i := 12) (oi := { dst := some 116, op := _, type := _, pos := _, after := _, guard := _ }) (v := ?_) rfl (by kernel_rfl) (by kernel_rfl) (by kernel_rfl) (fun _ _ _ h => h) (Or.inl ⟨by rfl, ?_⟩) hHeld ?_
              rotate_left
              · (intro w hSw; obtain ⟨t0, tl, t1, t2, t3, t4, -⟩ := HF.out _ (hSw); go_simp <;> with_reducible rfl)
              try simp only [Act.put, List.setIfInBounds_toArray, List.set_cons_zero, List.set_cons_succ]
              refine wpAnyH_ready (rs := [13]) (by kernel_rfl) (by simp) ?_
              refine AllReadyH.cons (o := { dst := some 117, op := _, type := _, pos := _, after := _, guard := _ }) rfl (fun K hK => ?_) AllReadyH.nil
              have hHd := hHeld
              obtain ⟨t0, tl, t1, t2, t3, t4, -⟩ := HF.out _ (hHd)
              have hKeep := hHeld.trans (Chg.of_below (since_alloc (Below.refl _ _) (.cells #[.int .i64 la, .int .i64 lt] 3))) (.inl rfl)
              skip
              go_simp
              refine hK.out _ _ (by (try dsimp only); exact hKeep) (fun hHeld => ?_)
              clear hK K hKeep
              try simp only [Act.put, List.setIfInBounds_toArray, List.set_cons_zero, List.set_cons_succ]
              refine wpAnyH_ready (rs := [14]) (by kernel_rfl) (by simp) ?_
              refine AllReadyH.cons (o := { dst := some 118, op := _, type := _, pos := _, after := _, guard := _ }) rfl (fun K hK => ?_) AllReadyH.nil
              go_simp
              refine (rnumsW b Ay cy M0 (some ⟨wr.drew.heap.size, 0, none⟩) 2 [la, lt] (wr.drew.alloc (.cells #[.int .i64 la, .int .i64 lt] 3)) (own_below HR0.out.own (since_alloc (Below.refl _ wr.drew) (.cells #[.int .i64 la, .int .i64 lt] 3))) (Nat.le_trans HSJ.out (since_alloc (Below.refl _ wr.drew) (.cells #[.int .i64 la, .int .i64 lt] 3)).size) (by simp) (by simp; have := HLM0.out; omega) (fun x hx => by
                obtain ⟨i1, i2, i3⟩ := HJN.out
                simp only [List.mem_cons, List.not_mem_nil, or_false] at hx
                rcases hx with rfl | rfl <;> assumption) (Sl.new_ _ _ _) (fun b3 o3 e _ e2 => by
                injection e with e
                injection e with e _
                subst e
                exact own_newB HR0.out.own (Nat.le_refl _) e2)).mono ?_
              rintro e y1 ⟨Az, cz, rfl, hWn⟩
              obtain ⟨M1, hM1⟩ : ∃ M1, M0 ++ packL [la, lt] = M1 := ⟨_, rfl⟩
              have HEM1 := Lib.hid hM1
              have HLM1 : Hid (M1.length ≤ 900100) := Lib.hid (by
                have h1 : (packL [la, lt]).length ≤ 20 := packL_le (l := [la, lt]) (fun x hx => by
                obtain ⟨i1, i2, i3⟩ := HJN.out
                simp only [List.mem_cons, List.not_mem_nil, or_false] at hx
                rcases hx with rfl | rfl <;> assumption)
                have := HLM0.out
                rw [← hM1, List.length_append]; omega)
              rw [hM1] at hWn ⊢
              clear hM1
              have hWn := (HR0.out.below (since_alloc (Below.refl _ wr.drew) (.cells #[.int .i64 la, .int .i64 lt] 3))).trans hWn
              have hKeep : Chg wr.heap.size (ob Ay M0 cy) wr y1 := hWn.chg
              have HWN := Lib.hid hWn
              clear hWn
              go_wp2_with fail
              refine hK.out _ _ (by (try dsimp only); exact hKeep) (fun hHeld => ?_)
              clear hK K hKeep
              try simp only [Act.put, List.setIfInBounds_toArray, List.set_cons_zero, List.set_cons_succ]
              refine wpAnyH_take (i := 15) (oi := { dst := some 3, op := _, type := _, pos := _, after := _, guard := _ }) (v := ?_) rfl (by kernel_rfl) (by kernel_rfl) (by kernel_rfl) (fun _ _ _ h => h) (Or.inl ⟨by rfl, ?_⟩) hHeld ?_
              rotate_left
              · (intro w hSw; obtain ⟨t0, tl, t1, t2, t3, t4, -⟩ := HF.out _ (hSw); go_simp <;> with_reducible rfl)
              try simp only [Act.put, List.setIfInBounds_toArray, List.set_cons_zero, List.set_cons_succ]
              refine wpAnyH_done (by kernel_rfl) ?_ _
              obtain ⟨t0, tl, t1, t2, t3, t4, -⟩ := HF.out _ HWN.out.chg
              have hq6 : In64p lq := HJN.out.2.2
              have HI := Lib.hid (rpint_any lq hq6 y1)
              have hQ10 : (packI lq).length ≤ 10 := vb_len10 (zz_lt hq6)
              obtain ⟨Q, hQ⟩ : ∃ Q, packI lq = Q := ⟨_, rfl⟩
              rw [hQ] at HI hQ10
              have HQ := Lib.hid hQ
              clear hQ
              go_wp2_with fail
              refine HI.out.mono ?_
              rintro e w2 ⟨⟨Ai, ci, rfl, own3⟩, hb2⟩
              have hq := Sl.of_own own3
              have hW3 := HWN.out.below hb2
              have hszW2 : b ≤ w2.heap.size := Nat.le_trans (HWDS.out _ HWN.out.chg.size) hb2.size
              have hBL : M1.length ≤ 999000 := by have := HLM1.out; omega
              clear HI hb2 own3
              go_wp2_with (first
                | (at_builtin; refine wpList_app3 rfl (.tmp 119) (.tmp 126) rfl EU8 rfl rfl hW3.own (m := Q.length) (by rw [by8_length, Nat.mul_one]) hq (by8_one _) (by unfold maxLen; omega) (by omega) hszW2 ?_; intro Az2 cz2 y2 own5 hg5 hv5 hb5)
                | fail)
              have hR := hW3.trans (Rt.of_app (bs2 := M1 ++ Q) hW3.own hg5 (by rw [List.length_append, by8_append]; exact own5) (by rw [List.length_append]; exact hv5))
              rw [show M1.length + Q.length = (M1 ++ Q).length from (List.length_append ..).symm]
              obtain ⟨M2, hBn⟩ : ∃ M2, M1 ++ Q = M2 := ⟨_, rfl⟩
              have HEM2 : Hid (M1 ++ packL [lq] = M2) := Lib.hid (by rw [packL_one, HQ.out]; exact hBn)
              have HLM2 : Hid (M2.length ≤ M1.length + 10) := Lib.hid (by rw [← hBn, List.length_append]; omega)
              rw [hBn] at hR ⊢
              have K5 := Lib.hid hR
              clear hBn hR hW3 hq hszW2 hBL own5 hg5 hv5 hb5 hQ10 HQ
              have hF := HWJ.out.trans K5.out
              have hPF : packL (pre2 er nums debs rets k ++ pre3 ⟨va, vb, vq, some ⟨lb, lo, none⟩, vC, vl⟩ (j + 1)) = M2 := by rw [HTJ.out, HEM1.out, HEM2.out]
              clear K5 t0 tl t1 t2 t3 t4 hq6 hHeld
              go_roundw
              case rel => exact ⟨j + 1, Az2, cz2, by omega, by go_num, by rw [hPF], by rw [hPF]; exact hF⟩
              case measure => simp [intOf]; omega
            · obtain rfl : j = vl.length := by omega
              have hFx := HABS.out.trans hWj
              rw [← HT2.out] at hFx ⊢
              clear hWj
              have d0 : wr.cell? ⟨XB, 0, none⟩ = some (.int .i64 va) := (cell_of_row wr XB 0 _ _ (0, 0) hbj).trans rfl
              have d1 : wr.cell? ⟨XB, 1, none⟩ = some (.int .i64 vb) := (cell_of_row wr XB 1 _ _ (0, 0) hbj).trans rfl
              have d2 : wr.cell? ⟨XB, 2, none⟩ = some (.int .i64 vq) := (cell_of_row wr XB 2 _ _ (0, 0) hbj).trans rfl
              have d3 : wr.cell? ⟨XB, 3, none⟩ = some (.slice vA vl.length vC) := (cell_of_row wr XB 3 _ _ (0, 0) hbj).trans rfl
              have dl := (Array.getElem?_eq_some_iff.1 hbj).1
              go_wp2_with fail
              go_roundw
              case rel => exact ⟨k + 1, Ay, cy, by omega, by go_num, rfl, hFx⟩
              case measure => simp [intOf]; omega
        · obtain rfl : k = rets.length := by omega
          clear q1 q2 q3
          have hBF := HBW.out _ hW.chg
          rw [pre2_all] at hW ⊢
          have HO := Lib.hid hW.own
          clear hW
          have r0 : wr.cell? ⟨b, 0, none⟩ = some (.int .i64 er) := (cell_of_row wr b 0 _ _ (0, 0) hxr).trans rfl
          have r1 : wr.cell? ⟨b, 1, none⟩ = some (.slice A1 nums.length k1) := (cell_of_row wr b 1 _ _ (0, 0) hxr).trans rfl
          have r2 : wr.cell? ⟨b, 2, none⟩ = some (.slice A2 debs.length k2) := (cell_of_row wr b 2 _ _ (0, 0) hxr).trans rfl
          have r3 : wr.cell? ⟨b, 3, none⟩ = some (.slice A3 rets.length k3) := (cell_of_row wr b 3 _ _ (0, 0) hxr).trans rfl
          have rl := (Array.getElem?_eq_some_iff.1 hxr).1
          go_wp2_with fail
          go_ret
          exact ⟨⟨Ax, cx, rfl, HO.out⟩, hBF⟩
end Go.Proofs.Ytpmnjojednbnpaa
end
