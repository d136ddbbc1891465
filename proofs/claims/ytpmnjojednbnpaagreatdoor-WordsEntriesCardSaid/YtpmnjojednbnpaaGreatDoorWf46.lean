import Derived.Test.YtpmnjojednbnpaaGreatDoorWf45
set_option maxHeartbeats 16000000
set_option maxRecDepth 100000
set_option linter.unusedVariables false
set_option linter.unusedSimpArgs false
namespace Go.Proofs.YtpmnjojednbnpaaGreatDoor
open Go.ChangeShapes Go.WideShapes Go.ChangeAt Go.RowKit
section
theorem PERes.good {W : Nat} {w' : World} {l : List UInt8} {x : En} {B K : Option Addr} {kb kk : Nat} (h : okPE l = true) (hx : guessE l = x) (o1 : w'.ownsRow W 5 1 (.slice B x.bs.length kb) x.bs.length (by8 x.bs)) (o2 : w'.ownsRow W 3 1 (.slice K x.ks.length kk) x.ks.length (ints .i64 x.ks)) : PERes W w' (.returned (.tuple #[.agg #[.int .i64 x.z, .slice B x.bs.length kb, .int .i64 x.n, .slice K x.ks.length kk], .int .i64 0])) l := by
 unfold PERes;rw [peV_ok h, hx, h];exact ⟨B, kb, K, kk, rfl, o1, o2⟩
theorem rparseEnt (l : List UInt8) (w : World) (hl : l.length ≤ 900) :
  Calls Tryz.prog 23 #[.string (S8 l)] w fun e w' => PERes w.heap.size w' e l ∧ Below w.heap.size w w' := by
 have hb0 := since_alloc (Below.refl _ w) (.cells #[.int .i64 0, .slice none 0 0, .int .i64 0, .slice none 0 0] 57);have hx0 := heap_alloc_new w (.cells #[.int .i64 0, .slice none 0 0, .int .i64 0, .slice none 0 0] 57);obtain ⟨q0, hq0⟩ : ∃ q0, w.heap.size = q0 := ⟨_, rfl⟩;have hsz0 : (w.alloc (.cells #[.int .i64 0, .slice none 0 0, .int .i64 0, .slice none 0 0] 57)).heap.size = q0 + 1 := by rw [World.size_alloc, hq0]
 rw [hq0] at hx0 hb0 ⊢;have HQ0 := hJz hq0;obtain ⟨R0, hR0⟩ : ∃ R0, w.alloc (.cells #[.int .i64 0, .slice none 0 0, .int .i64 0, .slice none 0 0] 57) = R0 := ⟨_, rfl⟩;rw [hR0] at hx0 hb0 hsz0;have HR0 := hJz hR0
 have HK : Hid (∀ V, Below R0.heap.size R0 V → V.heap[q0]? = some (.cells #[.int .i64 0, .slice none 0 0, .int .i64 0, .slice none 0 0] 57 (0, 0)) ∧ Below q0 w V) := hJz fun V hV => by
  exact ⟨(hV.block q0 (by omega)).trans hx0, hb0.trans (hV.mono (by omega))⟩
 have HZ0 := hJz hsz0;have HSP := hJz (rsplit40 l R0 (by omega));have HPA := hJz (fun V => rparse40 l V hl)
 obtain ⟨x0, P, hP⟩ : ∃ x P, splD 32 l = x :: P := by
  cases hq : splD 32 l with
  | nil => exact absurd hq (splD_ne 32 _)
  | cons x P => exact ⟨x, P, rfl⟩
 have HHD := hJz hP
 have HPC : Hid ((x0 :: P).length ≤ 1000 ∧ ∀ y ∈ x0 :: P, y.length ≤ 900) := hJz (by
  rw [← hP]
  exact ⟨by have := splD_len 32 l; omega, fun y hy => by have := splD_piece 32 l y hy; omega⟩)
 obtain ⟨P0, hP0⟩ : ∃ P0, x0 :: P = P0 := ⟨_, rfl⟩;rw [hP, hP0] at HSP;rw [hP0] at HPC;have HP0 := hJz hP0;have hP0n : 0 < P0.length := by rw [← hP0]; simp
 have hP0z : P0[0]? = some x0 := by rw [← hP0]; rfl
 have HP0Z := hJz hP0z;clear hx0 hb0 hsz0 hR0 hq0 hP hP0 hP0z hl;go_enter Tryz.func23, Tryz.ntmps23;go_upto_region 1 with fail;rw [HR0.out, HQ0.out]
 by_cases hp : l = powerW
 ·have ep : (S8 l).toList = [112, 111, 119, 101, 114] := by rw [hp, ByteArray.toList_eq, S8_data]; rfl
  have HG := hJz pe_power;have HL : Hid (l = powerW) := hJz hp;clear hp HPA;obtain ⟨hqq, hBq⟩ := HK.out R0 (Below.refl _ _);have kq0 : R0.cell? ⟨q0, 0, none⟩ = some (.int .i64 0) := (cell_of_row R0 q0 0 _ _ (0, 0) hqq).trans rfl;have kq1 : R0.cell? ⟨q0, 1, none⟩ = some (.slice none 0 0) := (cell_of_row R0 q0 1 _ _ (0, 0) hqq).trans rfl;have kq2 : R0.cell? ⟨q0, 2, none⟩ = some (.int .i64 0) := (cell_of_row R0 q0 2 _ _ (0, 0) hqq).trans rfl;have kq3 : R0.cell? ⟨q0, 3, none⟩ = some (.slice none 0 0) := (cell_of_row R0 q0 3 _ _ (0, 0) hqq).trans rfl;have hql := (Array.getElem?_eq_some_iff.1 hqq).1;have fq : ∀ i, R0.frozen? ⟨q0, i, none⟩ = false := fun i => by simp [World.frozen?, hqq]
  have hcs := @cell_set;have HBQ := hJz hBq;clear hqq hBq;go_wp2_with fail
  refine bodyPost_ret (v := .tuple #[.agg #[.int .i64 3, .slice none 0 0, .int .i64 0, .slice none 0 0], .int .i64 0]) ?_ rfl ⟨?_, ?_⟩
  ·simp [results, Tryz.results23, go_sem, kq0, kq1, kq2, kq3, fq]
  ·rw [HL.out]; exact PERes.good (x := ⟨3, [], 0, []⟩) HG.out.2 HG.out.1 (own_nil _ _ _) (own_nil _ _ _)
  ·refine Below.setCell (Below.setCell (Below.setCell (Below.setCell HBQ.out ?_ _) ?_ _) ?_ _) ?_ _
   all_goals exact Nat.le_refl _
 ·have ep : ((S8 l).toList == [112, 111, 119, 101, 114]) = false := by
   rw [ByteArray.toList_eq, S8_data, beq_eq_false_iff_ne];exact hp
  have ep' : ¬ (S8 l).toList = [112, 111, 119, 101, 114] := fun h => by rw [h] at ep; simp at ep
  by_cases hc : l = compactW
  ·have ec : (S8 l).toList = [99, 111, 109, 112, 97, 99, 116] := by rw [hc, ByteArray.toList_eq, S8_data]; rfl
   have HG := hJz pe_compact;have HL : Hid (l = compactW) := hJz hc;clear hc HPA;obtain ⟨hqq, hBq⟩ := HK.out R0 (Below.refl _ _);have kq0 : R0.cell? ⟨q0, 0, none⟩ = some (.int .i64 0) := (cell_of_row R0 q0 0 _ _ (0, 0) hqq).trans rfl;have kq1 : R0.cell? ⟨q0, 1, none⟩ = some (.slice none 0 0) := (cell_of_row R0 q0 1 _ _ (0, 0) hqq).trans rfl;have kq2 : R0.cell? ⟨q0, 2, none⟩ = some (.int .i64 0) := (cell_of_row R0 q0 2 _ _ (0, 0) hqq).trans rfl;have kq3 : R0.cell? ⟨q0, 3, none⟩ = some (.slice none 0 0) := (cell_of_row R0 q0 3 _ _ (0, 0) hqq).trans rfl;have hql := (Array.getElem?_eq_some_iff.1 hqq).1;have fq : ∀ i, R0.frozen? ⟨q0, i, none⟩ = false := fun i => by simp [World.frozen?, hqq]
   have hcs := @cell_set;have HBQ := hJz hBq;clear hqq hBq;go_wp2_with fail
   refine bodyPost_ret (v := .tuple #[.agg #[.int .i64 4, .slice none 0 0, .int .i64 0, .slice none 0 0], .int .i64 0]) ?_ rfl ⟨?_, ?_⟩
   ·simp [results, Tryz.results23, go_sem, kq0, kq1, kq2, kq3, fq]
   ·rw [HL.out]; exact PERes.good (x := ⟨4, [], 0, []⟩) HG.out.2 HG.out.1 (own_nil _ _ _) (own_nil _ _ _)
   ·refine Below.setCell (Below.setCell (Below.setCell (Below.setCell HBQ.out ?_ _) ?_ _) ?_ _) ?_ _
    all_goals exact Nat.le_refl _
  ·have ec : ((S8 l).toList == [99, 111, 109, 112, 97, 99, 116]) = false := by
    rw [ByteArray.toList_eq, S8_data, beq_eq_false_iff_ne];exact hc
   have ec' : ¬ (S8 l).toList = [99, 111, 109, 112, 97, 99, 116] := fun h => by rw [h] at ec; simp at ec
   have HH3 : Hid (l ≠ powerW) := hJz hp;have HH4 : Hid (l ≠ compactW) := hJz hc;clear hp hc;go_wp2_with fail;refine HSP.out.mono ?_;rintro e v1 ⟨⟨A1, c1, rfl, own1⟩, hb1⟩;have hne : strs P0 ≠ [] := by intro h; have h2 := strs_len P0; rw [h, List.length_nil] at h2; omega
   obtain ⟨b2, o2, hA2, hcc⟩ := Sl.of_own own1 hne;subst hA2;have HW1 := hJz own1;have c0 : v1.cell? ⟨b2, o2, none⟩ = some (.string (S8 x0)) := hcc 0 _ (by simp [strs, HP0Z.out]);have HB1 := hJz hb1;clear hcc hne own1 hb1 ep ec ep' ec'
   by_cases hf : x0 = fuseW
   ·have ef : (S8 x0).toList = [102, 117, 115, 101] := by rw [hf, ByteArray.toList_eq, S8_data]; rfl
    have hFU := pe_fuse (l := l) (P := P) (by rw [HHD.out, hf]);have HFU := hJz hFU;have hal := since_alloc (Below.refl _ v1) (.cells #[.int .i64 2, .slice none 0 0, .int .i64 0, .slice none 0 0] 57);have hg5 := heap_alloc_new v1 (.cells #[.int .i64 2, .slice none 0 0, .int .i64 0, .slice none 0 0] 57);obtain ⟨g5, hg⟩ : ∃ g5, v1.heap.size = g5 := ⟨_, rfl⟩;have hz5 := World.size_alloc v1 (.cells #[.int .i64 2, .slice none 0 0, .int .i64 0, .slice none 0 0] 57);obtain ⟨V5, hV5⟩ : ∃ V5, v1.alloc (.cells #[.int .i64 2, .slice none 0 0, .int .i64 0, .slice none 0 0] 57) = V5 := ⟨_, rfl⟩;rw [hV5, hg] at hg5 hz5;rw [hV5] at hal;have hown5 := own_below HW1.out hal;have hb5 := since_step HB1.out hal;have hsv := HB1.out.size
    have HSV : Hid (∀ V, Chg g5 none V5 V → (Sl V (some ⟨b2, o2, none⟩) (strs P0)) ∧ V.heap[q0]? = some (.cells #[.int .i64 0, .slice none 0 0, .int .i64 0, .slice none 0 0] 57 (0, 0)) ∧ Below q0 w V) := hJz fun V hC => by
     obtain ⟨hq, hB⟩ := HK.out V5 hb5;have hz := HZ0.out;refine ⟨Sl.of_own (own_chg hown5 hC (own_type hown5 hg5 (by decide)) (fun b _ e => by cases e)), (hC.block q0 (by omega) (by omega) (fun e => by cases e)).trans hq, hB.trans (hC.below (by omega) (by omega) (fun b e => by cases e))⟩
    have HGE := hJz hg;have HV5E := hJz hV5;have HG5 := hJz hg5;have HGLT : Hid (g5 < V5.heap.size) := hJz (by omega);have HQG : Hid (q0 < V5.heap.size) := hJz (by have := HZ0.out; omega);have HNB := hJz (fun y V (h : y ∈ P0) => rnumb40 y V (by have := HPC.out.2 y h; omega));clear hf hFU hal hg5 hg hz5 hV5 hown5 hb5 hsv HPA;go_upto_region 8 with fail;rw [HV5E.out, HGE.out];clear c0;have hpl : P0.length ≤ 1000 := HPC.out.1;go_wp2_with fail;go_loopw [6] (fun iv wr => ∃ (i : Nat) (A8 : Option Addr) (c8 : Nat), 1 ≤ i ∧ i ≤ P0.length ∧ iv = .int .i64 (i : Int) ∧ wr.heap[g5]? = some (.cells #[.int .i64 2, .slice none 0 0, .int .i64 ((valsP ((P0.take i).drop 1)).headD 0), .slice A8 ((valsP ((P0.take i).drop 1)).tail).length c8] 57 (0, 0)) ∧ wr.ownsRow V5.heap.size 3 1 (.slice A8 ((valsP ((P0.take i).drop 1)).tail).length c8) ((valsP ((P0.take i).drop 1)).tail).length (ints .i64 ((valsP ((P0.take i).drop 1)).tail)) ∧ (∀ y ∈ (P0.take i).drop 1, (numD y).isSome = true) ∧ Chg g5 none V5 wr) (fun iv _ => P0.length - (intOf iv).toNat)
    case atStart =>
     have e1 : (P0.take 1).drop 1 = [] := List.drop_eq_nil_of_le (by rw [List.length_take]; omega)
     refine ⟨1, none, 0, by omega, by omega, rfl, ?_, ?_, ?_, Chg.refl _ _ _⟩
     ·rw [e1]; exact HG5.out
     ·rw [e1]; exact own_nil _ _ _
     ·rw [e1]; exact fun y hy => by cases hy
    case round =>
     clear HG5;obtain ⟨i, A8, c8, hi0, hi1, rfl, hbx, hown, hall, hC⟩ := hrel;obtain ⟨hsv, hqq, hBq⟩ := HSV.out wr hC;obtain ⟨N, hN⟩ : ∃ N, (valsP ((P0.take i).drop 1)).headD 0 = N := ⟨_, rfl⟩;obtain ⟨KS, hKS⟩ : ∃ KS, (valsP ((P0.take i).drop 1)).tail = KS := ⟨_, rfl⟩;rw [hN, hKS] at hbx;rw [hKS] at hown;have g0 : wr.cell? ⟨g5, 0, none⟩ = some (.int .i64 2) := (cell_of_row wr g5 0 _ _ (0, 0) hbx).trans rfl;have g1 : wr.cell? ⟨g5, 1, none⟩ = some (.slice none 0 0) := (cell_of_row wr g5 1 _ _ (0, 0) hbx).trans rfl;have g2 : wr.cell? ⟨g5, 2, none⟩ = some (.int .i64 N) := (cell_of_row wr g5 2 _ _ (0, 0) hbx).trans rfl;have g3 : wr.cell? ⟨g5, 3, none⟩ = some (.slice A8 KS.length c8) := (cell_of_row wr g5 3 _ _ (0, 0) hbx).trans rfl;have gl := (Array.getElem?_eq_some_iff.1 hbx).1
     by_cases hi : i < P0.length
     ·have hil : (i : Int) < (P0.length : Int) := by omega
      have hi00 : (0 : Int) ≤ (i : Int) := by omega
      have hne : strs P0 ≠ [] := by intro h; have h2 := strs_len P0; rw [h, List.length_nil] at h2; omega
      obtain ⟨b3, o3, hA3, hcc⟩ := hsv hne;injection hA3 with hA3;injection hA3 with hA3 hA4;subst hA3;subst hA4;obtain ⟨y, hy⟩ : ∃ y, P0[i] = y := ⟨_, rfl⟩;have hym : y ∈ P0 := by rw [← hy]; exact List.getElem_mem hi
      have c0 : wr.cell? ⟨b2, o2 + i, none⟩ = some (.string (S8 y)) := hcc i _ (by rw [strs_at hi, hy])
      have htk : (P0.take (i + 1)).drop 1 = (P0.take i).drop 1 ++ [y] := by
       rw [take_snoc P0 i hi, hy, List.drop_append_of_le_length (by rw [List.length_take]; omega)]
      have HNY := hJz (HNB.out y wr hym);have HTK := hJz htk;have HALL := hJz hall;have HC := hJz hC;have HBX := hJz hbx;have HOW := hJz hown
      have HYI : Hid (i + 1 ≤ P0.length → y ∈ P0.drop 1) := hJz fun _ => by
       rw [← hy]
       have : P0[i] = (P0.drop 1)[i - 1]'(by rw [List.length_drop]; omega) := by
        rw [List.getElem_drop]
        congr 1
        omega
       rw [this];exact List.getElem_mem _
      have HN := hJz hN;have HKS := hJz hKS
      have hkl : KS.length ≤ 1000 := by
       rw [← hKS, List.length_tail];simp only [valsP, List.length_map, List.length_drop, List.length_take];omega
      clear hne hcc hy hym htk hall hC hsv hbx hown hqq hBq hN hKS;go_upto_region 12 with (first | (go_at_call 43; refine HNY.out.mono ?_; rintro e v3 ⟨rfl, hb3⟩; unfold numA; have HB3 := hJz hb3; clear hb3) | fail);have hC3 := HC.out.trans (Chg.of_below HB3.out) (.inl rfl);have hbx3 := (HB3.out.block g5 gl).trans HBX.out;have hown3 := own_below HOW.out HB3.out;clear g0 g1 g2 g3 gl c0
      cases hnd : numD y with
      | none =>
       obtain ⟨hsv, hqq, hBq⟩ := HSV.out v3 hC3
       have HB : Hid (okPE l = false) := hJz (by
        cases h : okPE l with
        | false => rfl
        | true =>
         have h1 := (HFU.out.1.1 h).2 y (by
          have := HYI.out (by omega);rw [← HP0.out] at this
          exact this)
         rw [hnd] at h1
         cases h1)
       clear hnd hsv hC3 hbx3 hown3;have kq0 : v3.cell? ⟨q0, 0, none⟩ = some (.int .i64 0) := (cell_of_row v3 q0 0 _ _ (0, 0) hqq).trans rfl;have kq1 : v3.cell? ⟨q0, 1, none⟩ = some (.slice none 0 0) := (cell_of_row v3 q0 1 _ _ (0, 0) hqq).trans rfl;have kq2 : v3.cell? ⟨q0, 2, none⟩ = some (.int .i64 0) := (cell_of_row v3 q0 2 _ _ (0, 0) hqq).trans rfl;have kq3 : v3.cell? ⟨q0, 3, none⟩ = some (.slice none 0 0) := (cell_of_row v3 q0 3 _ _ (0, 0) hqq).trans rfl;have hql := (Array.getElem?_eq_some_iff.1 hqq).1;have fq : ∀ i, v3.frozen? ⟨q0, i, none⟩ = false := fun i => by simp [World.frozen?, hqq]
       have hcs := @cell_set;have HBQ := hJz hBq;clear hqq hBq;go_wp2_with fail
       refine bodyPost_ret (v := .tuple #[.agg #[.int .i64 0, .slice none 0 0, .int .i64 0, .slice none 0 0], .int .i64 3]) ?_ rfl ⟨?_, ?_⟩
       ·simp [results, Tryz.results23, go_sem, kq0, kq1, kq2, kq3, fq]
       ·exact PERes.bad HB.out
       ·refine Below.setCell (Below.setCell (Below.setCell (Below.setCell HBQ.out ?_ _) ?_ _) ?_ _) ?_ _
        all_goals exact Nat.le_refl _
      | some v =>
       have HND := hJz (numD_val hnd);have HNS : Hid ((numD y).isSome = true) := hJz (by rw [hnd]; rfl)
       have HALL2 : Hid (∀ z ∈ (P0.take (i + 1)).drop 1, (numD z).isSome = true) := hJz fun z hz => by
        rw [HTK.out] at hz
        rcases List.mem_append.1 hz with hz | hz
        ·exact HALL.out z hz
        ·rw [List.mem_singleton.1 hz]; exact HNS.out
       have HVT : Hid (valsP ((P0.take (i + 1)).drop 1) = valsP ((P0.take i).drop 1) ++ [v]) := hJz (by
        rw [HTK.out]
        simp [valsP, HND.out.1])
       have HVL : Hid ((valsP ((P0.take i).drop 1)).length = i - 1) := hJz (by
        simp only [valsP, List.length_map, List.length_drop, List.length_take]
        omega)
       clear hnd;have g0 : v3.cell? ⟨g5, 0, none⟩ = some (.int .i64 2) := (cell_of_row v3 g5 0 _ _ (0, 0) hbx3).trans rfl;have g1 : v3.cell? ⟨g5, 1, none⟩ = some (.slice none 0 0) := (cell_of_row v3 g5 1 _ _ (0, 0) hbx3).trans rfl;have g2 : v3.cell? ⟨g5, 2, none⟩ = some (.int .i64 N) := (cell_of_row v3 g5 2 _ _ (0, 0) hbx3).trans rfl;have g3 : v3.cell? ⟨g5, 3, none⟩ = some (.slice A8 KS.length c8) := (cell_of_row v3 g5 3 _ _ (0, 0) hbx3).trans rfl;have gl := (Array.getElem?_eq_some_iff.1 hbx3).1;have fg : ∀ k, v3.frozen? ⟨g5, k, none⟩ = false := fun k => by simp [World.frozen?, hbx3]
       have HC3 := hJz hC3;have HBX3 := hJz hbx3;have HOW3 := hJz hown3
       by_cases hi2 : i = 1
       ·have e1 : ((i : Int) == 1) = true := by rw [hi2]; rfl
        have HV0 : Hid (valsP ((P0.take i).drop 1) = []) := hJz (List.length_eq_zero_iff.1 (by rw [HVL.out]; omega));have HKN : Hid (KS = []) := hJz (by rw [← HKS.out, HV0.out]; rfl);clear hC3 hbx3 hown3 hi2;go_wp2_with fail;go_roundw
        case rel =>
         refine ⟨i + 1, A8, c8, by omega, by omega, by go_num, ?_, ?_, HALL2.out, HC3.out.trans (Chg.set (g := g5) (row := none) 2 (.int .i64 v)) (.inl rfl)⟩
         ·rw [HVT.out, HV0.out];have := setbW 2 (.int .i64 v) HBX3.out;rw [HKN.out] at this;exact this
         ·rw [HVT.out, HV0.out];have := own_chg HOW3.out (Chg.set (g := g5) (row := none) 2 (.int .i64 v)) (own_type HOW3.out HBX3.out (by decide)) (fun b _ e => by cases e);rw [HKN.out] at this;exact this
        case measure => simp [intOf]; omega
       ·have e1 : ((i : Int) == 1) = false := by rw [beq_eq_false_iff_ne]; omega
        have e2 : ¬ i = 1 := hi2;have hal := since_alloc (Below.refl _ v3) (.cells #[.int .i64 v] 3);have HO := hJz (hown3.alloc (.cells #[.int .i64 v] 3));have HBX4 := hJz ((hal.block g5 gl).trans hbx3);have HZ9 : Hid (V5.heap.size ≤ v3.heap.size + 1) := hJz (by have := hC3.size; omega);have HGW : Hid (g5 < (v3.alloc (.cells #[.int .i64 v] 3)).heap.size) := hJz (by rw [World.size_alloc]; omega);have HALS := hJz (hal.mono hC3.size)
        obtain ⟨u0, U, hU⟩ : ∃ u U, valsP ((P0.take i).drop 1) = u :: U := by
         cases hv : valsP ((P0.take i).drop 1) with
         | nil =>
          have := HVL.out;rw [hv] at this;simp at this;omega
         | cons u U => exact ⟨u, U, rfl⟩
        have HN2 : Hid ((valsP ((P0.take (i + 1)).drop 1)).headD 0 = N ∧ (valsP ((P0.take (i + 1)).drop 1)).tail = KS ++ [v]) := hJz (by
         rw [HVT.out, ← HN.out, ← HKS.out, hU]
         exact ⟨rfl, rfl⟩)
        clear hC3 hbx3 hown3 hal hU
        go_wp2_with (first
         | (at_builtin; refine wpList_app3 rfl (.tmp 48) (.tmp 50) rfl ENi rfl rfl HO.out (m := 1) (news := [.int .i64 v]) rfl (Sl.new_ _ _ _) (fun u hu => by simp only [List.mem_cons, List.not_mem_nil, or_false] at hu; subst hu; rfl) (by unfold maxLen; omega) (by omega) (by simp only [World.size_alloc]; exact HZ9.out) ?_; intro A5 c5 w5 own5 hg5 hv5 hb5; have hblk5 : w5.heap[g5]? = some (.cells #[.int .i64 2, .slice none 0 0, .int .i64 N, .slice A8 KS.length c8] 57 (0, 0)) := (hg5.block g5 HGW.out (fun e => own_type HO.out HBX4.out (by decide) e.symm)).trans HBX4.out; have k5 : w5.cell? ⟨g5, 3, none⟩ = some (.slice A8 KS.length c8) := (cell_of_row w5 g5 3 _ _ (0, 0) hblk5).trans rfl; have f5 : w5.frozen? ⟨g5, 3, none⟩ = false := (by simp [World.frozen?, hblk5]); have gl5 := (Array.getElem?_eq_some_iff.1 hblk5).1; have HBK := hJz hblk5; have HBB := hJz (HALS.out.trans hb5); have HO5 := hJz own5; clear hblk5 hg5 hv5 hb5 own5 g0 g1 g2 g3 gl fg)
         | fail)
        go_roundw
        case rel =>
         refine ⟨i + 1, A5, c5, by omega, by omega, by go_num, ?_, ?_, HALL2.out, (HC3.out.thenW HBB.out (Nat.le_refl _)).trans (Chg.set (g := g5) (row := none) 3 (.slice A5 (KS.length + 1) c5)) (.inl rfl)⟩
         ·rw [HN2.out.1, HN2.out.2, List.length_append];exact setbW 3 _ HBK.out
         ·rw [HN2.out.2, List.length_append];have := own_chg HO5.out (Chg.set (g := g5) (row := none) 3 (.slice A5 (KS.length + 1) c5)) (own_type HO5.out HBK.out (by decide)) (fun b _ e => by cases e);simpa [ints] using this
        case measure => simp [intOf]; omega
     ·obtain rfl : i = P0.length := by omega
      have HO := hJz hown;rw [List.take_length] at hN hKS hall;have hdr : P0.drop 1 = P := by rw [← HP0.out]; rfl
      rw [hdr] at hN hKS hall
      by_cases h2 : P0.length < 2
      ·have h2I : (P0.length : Int) < 2 := by omega
       have hPn : P = [] := by
        have : P0.length = P.length + 1 := by rw [← HP0.out]; rfl
        exact List.length_eq_zero_iff.1 (by omega)
       have HB : Hid (okPE l = false) := hJz (by
        cases h : okPE l with
        | false => rfl
        | true => exact absurd hPn (HFU.out.1.1 h).1)
       clear hbx hown hall hC hsv hN hKS hdr hPn;have kq0 : wr.cell? ⟨q0, 0, none⟩ = some (.int .i64 0) := (cell_of_row wr q0 0 _ _ (0, 0) hqq).trans rfl;have kq1 : wr.cell? ⟨q0, 1, none⟩ = some (.slice none 0 0) := (cell_of_row wr q0 1 _ _ (0, 0) hqq).trans rfl;have kq2 : wr.cell? ⟨q0, 2, none⟩ = some (.int .i64 0) := (cell_of_row wr q0 2 _ _ (0, 0) hqq).trans rfl;have kq3 : wr.cell? ⟨q0, 3, none⟩ = some (.slice none 0 0) := (cell_of_row wr q0 3 _ _ (0, 0) hqq).trans rfl;have hql := (Array.getElem?_eq_some_iff.1 hqq).1;have fq : ∀ i, wr.frozen? ⟨q0, i, none⟩ = false := fun i => by simp [World.frozen?, hqq]
       have hcs := @cell_set;have HBQ := hJz hBq;clear hqq hBq;go_wp2_with fail
       refine bodyPost_ret (v := .tuple #[.agg #[.int .i64 0, .slice none 0 0, .int .i64 0, .slice none 0 0], .int .i64 3]) ?_ rfl ⟨?_, ?_⟩
       ·simp [results, Tryz.results23, go_sem, kq0, kq1, kq2, kq3, fq]
       ·exact PERes.bad HB.out
       ·refine Below.setCell (Below.setCell (Below.setCell (Below.setCell HBQ.out ?_ _) ?_ _) ?_ _) ?_ _
        all_goals exact Nat.le_refl _
      ·have h2I : ¬ (P0.length : Int) < 2 := by omega
       have HGP : Hid (guessE l = ⟨2, [], N, KS⟩) := hJz (by
        rw [HFU.out.2, ← hN, ← hKS]
        cases P with
        | nil =>
         have : P0.length = 1 := by rw [← HP0.out]; rfl
         omega
        | cons y r => rfl)
       have HB : Hid (okPE l = true) := hJz (HFU.out.1.2 ⟨fun h => by
        have : P0.length = 1 := by rw [← HP0.out, h]; rfl
        omega, hall⟩)
       clear hbx hown hall hC hsv hN hKS hdr;have kq0 : wr.cell? ⟨q0, 0, none⟩ = some (.int .i64 0) := (cell_of_row wr q0 0 _ _ (0, 0) hqq).trans rfl;have kq1 : wr.cell? ⟨q0, 1, none⟩ = some (.slice none 0 0) := (cell_of_row wr q0 1 _ _ (0, 0) hqq).trans rfl;have kq2 : wr.cell? ⟨q0, 2, none⟩ = some (.int .i64 0) := (cell_of_row wr q0 2 _ _ (0, 0) hqq).trans rfl;have kq3 : wr.cell? ⟨q0, 3, none⟩ = some (.slice none 0 0) := (cell_of_row wr q0 3 _ _ (0, 0) hqq).trans rfl;have hql := (Array.getElem?_eq_some_iff.1 hqq).1;have fq : ∀ i, wr.frozen? ⟨q0, i, none⟩ = false := fun i => by simp [World.frozen?, hqq]
       have hcs := @cell_set;have HBQ := hJz hBq;clear hqq hBq;go_wp2_with fail
       refine bodyPost_ret (v := .tuple #[.agg #[.int .i64 2, .slice none 0 0, .int .i64 N, .slice A8 KS.length c8], .int .i64 0]) ?_ rfl ⟨?_, ?_⟩
       ·simp [results, Tryz.results23, go_sem, kq0, kq1, kq2, kq3, fq]
       ·exact PERes.good (x := ⟨2, [], N, KS⟩) HB.out HGP.out (own_nil _ _ _) (own_bsW (own_set4 HO.out HQG.out _ _ _ _) (Nat.le_of_lt HQG.out))
       ·refine Below.setCell (Below.setCell (Below.setCell (Below.setCell HBQ.out ?_ _) ?_ _) ?_ _) ?_ _
        all_goals exact Nat.le_refl _
   ·have ef : ((S8 x0).toList == [102, 117, 115, 101]) = false := by
     rw [ByteArray.toList_eq, S8_data, beq_eq_false_iff_ne];exact hf
    have ef' : ¬ (S8 x0).toList = [102, 117, 115, 101] := fun h => by rw [h] at ef; simp at ef
    have HPE := hJz (pe_cmd (l := l) HHD.out hf HH3.out HH4.out);have HPR := hJz (HPA.out v1);clear hf HSP
    cases hok : okP l with
    | false =>
     have HB : Hid (okPE l = false) := hJz (by rw [HPE.out.1, hok])
     have HPR2 : Hid (Calls Tryz.prog 11 #[.string (S8 l)] v1 fun e w' => e = .returned (.tuple #[.agg #[.int .i64 0, .int .i64 0, .int .i64 0, .int .i64 0, .int .i64 0, .int .i64 0, .int .i64 0, .int .i64 0, .int .i64 0, .int .i64 0, .int .i64 0, .int .i64 0, .int .i64 0, .slice none 0 0], .int .i64 3]) ∧ Below v1.heap.size v1 w') := hJz (HPR.out.mono fun e w' h => by
      have h1 := h.1;rw [hok] at h1;unfold PRes at h1;rw [if_neg (by decide)] at h1
      exact ⟨h1, h.2⟩)
     clear hok HPE HPR;go_wp2_with fail;refine HPR2.out.mono ?_;rintro e v4 ⟨rfl, hb4⟩;have hb44 := since_step hb4 (since_alloc (Below.refl _ v4) (.cells #[.int .i64 0, .int .i64 0, .int .i64 0, .int .i64 0, .int .i64 0, .int .i64 0, .int .i64 0, .int .i64 0, .int .i64 0, .int .i64 0, .int .i64 0, .int .i64 0, .int .i64 0, .slice none 0 0] 26));obtain ⟨hqq, hBq⟩ := HK.out _ (since_step HB1.out hb44);obtain ⟨Y4, hY4⟩ : ∃ Y4, v4.alloc (.cells #[.int .i64 0, .int .i64 0, .int .i64 0, .int .i64 0, .int .i64 0, .int .i64 0, .int .i64 0, .int .i64 0, .int .i64 0, .int .i64 0, .int .i64 0, .int .i64 0, .int .i64 0, .slice none 0 0] 26) = Y4 := ⟨_, rfl⟩;have HY4 := hJz hY4;rw [hY4] at hqq hBq;clear hb4 hb44 hY4 c0;go_upto_region 21 with fail;rw [HY4.out];have kq0 : Y4.cell? ⟨q0, 0, none⟩ = some (.int .i64 0) := (cell_of_row Y4 q0 0 _ _ (0, 0) hqq).trans rfl;have kq1 : Y4.cell? ⟨q0, 1, none⟩ = some (.slice none 0 0) := (cell_of_row Y4 q0 1 _ _ (0, 0) hqq).trans rfl;have kq2 : Y4.cell? ⟨q0, 2, none⟩ = some (.int .i64 0) := (cell_of_row Y4 q0 2 _ _ (0, 0) hqq).trans rfl;have kq3 : Y4.cell? ⟨q0, 3, none⟩ = some (.slice none 0 0) := (cell_of_row Y4 q0 3 _ _ (0, 0) hqq).trans rfl;have hql := (Array.getElem?_eq_some_iff.1 hqq).1;have fq : ∀ i, Y4.frozen? ⟨q0, i, none⟩ = false := fun i => by simp [World.frozen?, hqq]
     have hcs := @cell_set;have HBQ := hJz hBq;clear hqq hBq;go_wp2_with fail
     refine bodyPost_ret (v := .tuple #[.agg #[.int .i64 0, .slice none 0 0, .int .i64 0, .slice none 0 0], .int .i64 3]) ?_ rfl ⟨?_, ?_⟩
     ·simp [results, Tryz.results23, go_sem, kq0, kq1, kq2, kq3, fq]
     ·exact PERes.bad HB.out
     ·refine Below.setCell (Below.setCell (Below.setCell (Below.setCell HBQ.out ?_ _) ?_ _) ?_ _) ?_ _
      all_goals exact Nat.le_refl _
    | true =>
     obtain ⟨y0, y1, y2, y3, y4, y5, y6, y7, y8, y9, y10, y11, y12, hYS⟩ : ∃ y0 y1 y2 y3 y4 y5 y6 y7 y8 y9 y10 y11 y12, (parseZ l).z = [y0, y1, y2, y3, y4, y5, y6, y7, y8, y9, y10, y11, y12] := by
      have h := (parseZ_in l).2.2
      match (parseZ l).z, h with
      | [y0, y1, y2, y3, y4, y5, y6, y7, y8, y9, y10, y11, y12], _ => exact ⟨_, _, _, _, _, _, _, _, _, _, _, _, _, rfl⟩
     have hY6 := (parseZ_in l).1;have hN6 := (parseZ_in l).2.1;have hnl := okP_len hok;have hz := (okP_parts hok).1;have hgu := HPE.out.2 hok;have HB : Hid (okPE l = true) := hJz (by rw [HPE.out.1, hok]);obtain ⟨NN, hNN⟩ : ∃ NN, (parseZ l).nums = NN := ⟨_, rfl⟩;rw [hYS] at hY6 hz hgu;rw [hNN] at hN6 hnl hz hgu;have HEQ := hJz hgu
     have HPR2 : Hid (Calls Tryz.prog 11 #[.string (S8 l)] v1 fun e w' => (∃ A5 c5, e = .returned (.tuple #[.agg #[.int .i64 y0, .int .i64 y1, .int .i64 y2, .int .i64 y3, .int .i64 y4, .int .i64 y5, .int .i64 y6, .int .i64 y7, .int .i64 y8, .int .i64 y9, .int .i64 y10, .int .i64 y11, .int .i64 y12, .slice A5 NN.length c5], .int .i64 0]) ∧ Sl w' A5 (ints .i64 NN)) ∧ Below v1.heap.size v1 w') := hJz (HPR.out.mono fun e w' h => by
      obtain ⟨A5, c5, e1, _, _, hs⟩ := pres_ok h.1 hok;rw [hYS, hNN] at e1;rw [hNN] at hs
      exact ⟨⟨A5, c5, e1, hs⟩, h.2⟩)
     have hec := fun A5 c5 V (hs : Sl V A5 (ints .i64 NN)) => rencode34E y0 y1 y2 y3 y4 y5 y6 y7 y8 y9 y10 y11 y12 A5 c5 NN V (by omega) hY6 hN6 hs;rw [← ok_isE, hz] at hec;have HEC := hJz hec;clear hok HPE HPR hYS hY6 hN6 hnl hz hNN hgu hec;go_wp2_with fail;refine HPR2.out.mono ?_;rintro e v4 ⟨⟨A5, c5, rfl, hs5⟩, hb4⟩;have hal := since_alloc (Below.refl _ v4) (.cells #[.int .i64 y0, .int .i64 y1, .int .i64 y2, .int .i64 y3, .int .i64 y4, .int .i64 y5, .int .i64 y6, .int .i64 y7, .int .i64 y8, .int .i64 y9, .int .i64 y10, .int .i64 y11, .int .i64 y12, .slice A5 NN.length c5] 26);have hyy := heap_alloc_new v4 (.cells #[.int .i64 y0, .int .i64 y1, .int .i64 y2, .int .i64 y3, .int .i64 y4, .int .i64 y5, .int .i64 y6, .int .i64 y7, .int .i64 y8, .int .i64 y9, .int .i64 y10, .int .i64 y11, .int .i64 y12, .slice A5 NN.length c5] 26);obtain ⟨yb, hyb⟩ : ∃ yb, v4.heap.size = yb := ⟨_, rfl⟩;obtain ⟨Y4, hY4⟩ : ∃ Y4, v4.alloc (.cells #[.int .i64 y0, .int .i64 y1, .int .i64 y2, .int .i64 y3, .int .i64 y4, .int .i64 y5, .int .i64 y6, .int .i64 y7, .int .i64 y8, .int .i64 y9, .int .i64 y10, .int .i64 y11, .int .i64 y12, .slice A5 NN.length c5] 26) = Y4 := ⟨_, rfl⟩;rw [hyb] at hyy;rw [hY4] at hal hyy;have hC4 := since_step HB1.out (since_step hb4 hal);have HEN := hJz (HEC.out A5 c5 Y4 (hs5.below hal));have HC4 := hJz hC4;have HY4 := hJz hY4;have HYB := hJz hyb;have xx0 : Y4.cell? ⟨yb, 0, none⟩ = some (.int .i64 y0) := (cell_of_row Y4 yb 0 _ _ (0, 0) hyy).trans rfl;have x1 : Y4.cell? ⟨yb, 1, none⟩ = some (.int .i64 y1) := (cell_of_row Y4 yb 1 _ _ (0, 0) hyy).trans rfl;have x2 : Y4.cell? ⟨yb, 2, none⟩ = some (.int .i64 y2) := (cell_of_row Y4 yb 2 _ _ (0, 0) hyy).trans rfl;have x3 : Y4.cell? ⟨yb, 3, none⟩ = some (.int .i64 y3) := (cell_of_row Y4 yb 3 _ _ (0, 0) hyy).trans rfl;have x4 : Y4.cell? ⟨yb, 4, none⟩ = some (.int .i64 y4) := (cell_of_row Y4 yb 4 _ _ (0, 0) hyy).trans rfl;have x5 : Y4.cell? ⟨yb, 5, none⟩ = some (.int .i64 y5) := (cell_of_row Y4 yb 5 _ _ (0, 0) hyy).trans rfl;have x6 : Y4.cell? ⟨yb, 6, none⟩ = some (.int .i64 y6) := (cell_of_row Y4 yb 6 _ _ (0, 0) hyy).trans rfl;have x7 : Y4.cell? ⟨yb, 7, none⟩ = some (.int .i64 y7) := (cell_of_row Y4 yb 7 _ _ (0, 0) hyy).trans rfl;have x8 : Y4.cell? ⟨yb, 8, none⟩ = some (.int .i64 y8) := (cell_of_row Y4 yb 8 _ _ (0, 0) hyy).trans rfl;have x9 : Y4.cell? ⟨yb, 9, none⟩ = some (.int .i64 y9) := (cell_of_row Y4 yb 9 _ _ (0, 0) hyy).trans rfl;have x10 : Y4.cell? ⟨yb, 10, none⟩ = some (.int .i64 y10) := (cell_of_row Y4 yb 10 _ _ (0, 0) hyy).trans rfl;have x11 : Y4.cell? ⟨yb, 11, none⟩ = some (.int .i64 y11) := (cell_of_row Y4 yb 11 _ _ (0, 0) hyy).trans rfl;have x12 : Y4.cell? ⟨yb, 12, none⟩ = some (.int .i64 y12) := (cell_of_row Y4 yb 12 _ _ (0, 0) hyy).trans rfl;have x13 : Y4.cell? ⟨yb, 13, none⟩ = some (.slice A5 NN.length c5) := (cell_of_row Y4 yb 13 _ _ (0, 0) hyy).trans rfl;have xl := (Array.getElem?_eq_some_iff.1 hyy).1;clear hal hyy hyb hY4 hs5 hb4 hC4 HEC c0;go_upto_region 21 with fail;rw [HY4.out, HYB.out];go_wp2_with fail;refine HEN.out.mono ?_;rintro e v5 ⟨he5, hb5⟩;unfold ERes34 at he5;rw [if_pos (by first | trivial | rfl)] at he5;obtain ⟨A6, c6, rfl, hown⟩ := he5;obtain ⟨PB, hPB⟩ : ∃ PB, packL (encC [y0, y1, y2, y3, y4, y5, y6, y7, y8, y9, y10, y11, y12] NN) = PB := ⟨_, rfl⟩;rw [hPB] at hown HEQ;rw [hPB];have hC5 := since_step HC4.out hb5;obtain ⟨hqq, hBq⟩ := HK.out v5 hC5;have HO := hJz hown;have HQG : Hid (q0 < Y4.heap.size) := hJz (by have := HC4.out.size; have := HZ0.out; omega);clear hb5 hown hPB hC5 HEN xx0 x1 x2 x3 x4 x5 x6 x7 x8 x9 x10 x11 x12 x13 xl;have kq0 : v5.cell? ⟨q0, 0, none⟩ = some (.int .i64 0) := (cell_of_row v5 q0 0 _ _ (0, 0) hqq).trans rfl;have kq1 : v5.cell? ⟨q0, 1, none⟩ = some (.slice none 0 0) := (cell_of_row v5 q0 1 _ _ (0, 0) hqq).trans rfl;have kq2 : v5.cell? ⟨q0, 2, none⟩ = some (.int .i64 0) := (cell_of_row v5 q0 2 _ _ (0, 0) hqq).trans rfl;have kq3 : v5.cell? ⟨q0, 3, none⟩ = some (.slice none 0 0) := (cell_of_row v5 q0 3 _ _ (0, 0) hqq).trans rfl;have hql := (Array.getElem?_eq_some_iff.1 hqq).1;have fq : ∀ i, v5.frozen? ⟨q0, i, none⟩ = false := fun i => by simp [World.frozen?, hqq]
     have hcs := @cell_set;have HBQ := hJz hBq;clear hqq hBq;go_wp2_with fail
     refine bodyPost_ret (v := .tuple #[.agg #[.int .i64 1, .slice A6 PB.length c6, .int .i64 0, .slice none 0 0], .int .i64 0]) ?_ rfl ⟨?_, ?_⟩
     ·simp [results, Tryz.results23, go_sem, kq0, kq1, kq2, kq3, fq]
     ·exact PERes.good (x := ⟨1, PB, 0, []⟩) HB.out HEQ.out (own_bsW (own_set4 HO.out HQG.out _ _ _ _) (Nat.le_of_lt HQG.out)) (own_nil _ _ _)
     ·refine Below.setCell (Below.setCell (Below.setCell (Below.setCell HBQ.out ?_ _) ?_ _) ?_ _) ?_ _
      all_goals exact Nat.le_refl _
end
end Go.Proofs.YtpmnjojednbnpaaGreatDoor
