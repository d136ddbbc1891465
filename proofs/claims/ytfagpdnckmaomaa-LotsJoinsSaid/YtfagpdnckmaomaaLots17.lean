/-
  Layer 18, seventeenth part: LotsJoins, LotsDraws (laid by gen_lots17.py).
-/
import Derived.Test.YtfagpdnckmaomaaLots16
namespace Go.Proofs.Ytfagpdnckmaomaa
open Go.ChangeShapes Go.WideShapes Go.ChangeAt Go.RowKit
set_option linter.unusedVariables false
set_option linter.unusedSimpArgs false

theorem joinF_len (L : List Lt) : (joinF [] L).2.length ≤ 16 := by
  by_cases h : (joinF [] L).1 = 0
  · exact isLs_len (join_ok (Prod.ext h rfl : joinF [] L = (0, (joinF [] L).2)) rfl).1
  · rw [join_err h]; simp
theorem rows_two {w : World} {A1 A2 : Option Addr} {c1 c2 : Nat} {D R : List Lt} (h1 : Sl w A1 (rc Lt.cells D)) (h2 : Sl w A2 (rc Lt.cells R)) : RowsOk w Lt.cells [(⟨A1, c1, D⟩ : RowS Lt), ⟨A2, c2, R⟩] := fun s hs => by
  rcases List.mem_cons.1 hs with rfl | hs
  · exact h1
  · rcases List.mem_cons.1 hs with rfl | hs
    · exact h2
    · cases hs

set_option maxHeartbeats 16000000 in
set_option maxRecDepth 100000 in
theorem walk_LotsJoins (a0 : Option Addr) (n0 c0 : Nat) (a1 : Option Addr) (n1 c1 : Nat) (w : World) (w0 : Rd w (.sl (.cat (.int .i64) (.cat (.int .i64) (.cat (.int .i64) .nil)))) [.slice a0 n0 c0]) (w1 : Rd w (.sl (.cat (.int .i64) (.cat (.int .i64) (.cat (.int .i64) .nil)))) [.slice a1 n1 c1]) :
    Calls Try.prog 12 #[.slice a0 n0 c0, .slice a1 n1 c1] w fun e w' => e = .returned (.bool true) ∧ Below w.heap.size w w' := by
  obtain ⟨l, rfl, hlc, hcm, hs, hq⟩ := rd_rowsP (f := Lt.cells) (fun r => rd_ltrow) w0
  obtain ⟨l', rfl, hlc', hcm', hs', hq'⟩ := rd_rowsP (f := Lt.cells) (fun r => rd_ltrow) w1
  clear w0 w1
  obtain ⟨L, hL⟩ : ∃ L, l.take 20 = L := ⟨_, rfl⟩
  have hL20 : L.length ≤ 20 := by rw [← hL]; simp; omega
  have hLq : ∀ y ∈ L, In64 y.qty := fun y hy => hq y (by rw [← hL] at hy; exact List.mem_of_mem_take hy)
  have hsL : Sl w a0 (rc Lt.cells L) := by rw [← hL, ← rc_take Lt.len]; exact hs.take _
  have HFW := few18_any a0 c0 l
  rw [hL] at HFW
  have HFW := Lib.hid (fun V h => HFW V hlc hcm h)
  obtain ⟨M, hM⟩ : ∃ M, l'.take 20 = M := ⟨_, rfl⟩
  have hM20 : M.length ≤ 20 := by rw [← hM]; simp; omega
  have hMq : ∀ y ∈ M, In64 y.qty := fun y hy => hq' y (by rw [← hM] at hy; exact List.mem_of_mem_take hy)
  have hsM : Sl w a1 (rc Lt.cells M) := by rw [← hM, ← rc_take Lt.len]; exact hs'.take _
  have HFM := few18_any a1 c1 l'
  rw [hM] at HFM
  have HFM := Lib.hid (fun V h => HFM V hlc' hcm' h)
  obtain ⟨jn, J, hJ⟩ : ∃ n R, joinF [] (L ++ M) = (n, R) := ⟨_, _, rfl⟩
  have HJ := Lib.hid (fun A V h1 h2 => ljoin_any A 2 [⟨a0, c0, L⟩, ⟨a1, c1, M⟩] V (by simp) (by simp [RowS.all]; omega) (by simp only [RowS.all, List.map_cons, List.map_nil, List.flatten_cons, List.flatten_nil, List.append_nil]; intro y hy; rcases List.mem_append.1 hy with hy | hy; exact hLq y hy; exact hMq y hy) h1 h2)
  simp only [RowS.all, List.map_cons, List.map_nil, List.flatten_cons, List.flatten_nil, List.append_nil] at HJ
  rw [hJ] at HJ
  unfold LRes at HJ
  simp only [List.length_cons, List.length_nil] at HJ
  have hB := Below.refl w.heap.size w
  have hways : jn = 0 ∨ jn ≠ 0 := by omega
  rcases hways with hw | hw
  · subst hw
    obtain ⟨k1, k2, k3, k4, k5⟩ := join_ok hJ rfl
    have hJ6 := k5 (fun y hy => by cases hy)
    have hJ16 := isLs_len k1
    have hsw := join_swap hJ
    have HK := Lib.hid (fun A V h1 h2 => ljoin_any A 2 [⟨a1, c1, M⟩, ⟨a0, c0, L⟩] V (by simp) (by simp [RowS.all]; omega) (by simp only [RowS.all, List.map_cons, List.map_nil, List.flatten_cons, List.flatten_nil, List.append_nil]; intro y hy; rcases List.mem_append.1 hy with hy | hy; exact hMq y hy; exact hLq y hy) h1 h2)
    simp only [RowS.all, List.map_cons, List.map_nil, List.flatten_cons, List.flatten_nil, List.append_nil] at HK
    rw [hsw] at HK
    unfold LRes at HK
    simp only [List.length_cons, List.length_nil] at HK
    have HSJ := Lib.hid (fun A c i V h => rsum_any A c J i V (by omega) hJ6 h)
    have HSA := Lib.hid (fun i V h => rsum_any a0 c0 L i V (by omega) hLq h)
    have HSB := Lib.hid (fun i V h => rsum_any a1 c1 M i V (by omega) hMq h)
    have HSE : Hid (∀ i, (qsL J i).sum = (qsL L i).sum + (qsL M i).sum) := Lib.hid fun i => by have h := k3 i; rw [qsum_append] at h; unfold qsum at h; rw [show (qsL ([] : List Lt) i).sum = 0 from rfl] at h; omega
    have H1 : Hid (∀ i, In128 (qsL J i).sum) := Lib.hid fun i => sum64_128 (by have := qsL_len J i; omega) (qsL_in hJ6 i)
    have H2 : Hid (∀ i, In128 (qsL L i).sum) := Lib.hid fun i => sum64_128 (by have := qsL_len L i; omega) (qsL_in hLq i)
    have H3 : Hid (∀ i, In128 (qsL M i).sum) := Lib.hid fun i => sum64_128 (by have := qsL_len M i; omega) (qsL_in hMq i)
    have HIS := Lib.hid (fun A c V h => lis_any A c J V (by omega) h)
    rw [k1] at HIS
    have HSS := Lib.hid (fun A A2 c c2 V h1 h2 => rlsame_any_self A A2 c c2 J V (by omega) h1 h2)
    clear k1 k2 k3 k4 k5 hJ6 hJ16 hsw hJ hLq hMq hL20 hM20
    clear hL hq hlc hcm hM hq' hlc' hcm'
    go_enter Try.func12, Try.ntmps12
    go_wp2_with fail
    refine (HFW.out _ hs).mono ?_
    rintro e z1 ⟨rfl, hb⟩
    have hB := since_step hB hb
    have hs := hs.below hb
    have hs' := hs'.below hb
    have hsL := hsL.below hb
    have hsM := hsM.below hb
    clear hb
    clear hs
    go_wp2_with fail
    refine (HFM.out _ hs').mono ?_
    rintro e z2 ⟨rfl, hb⟩
    have hB := since_step hB hb
    have hs' := hs'.below hb
    have hsL := hsL.below hb
    have hsM := hsM.below hb
    clear hb
    clear hs'
    go_wp2_with fail
    have hH := Sl.new_ z2 (rc RowS.cells [(⟨a0, c0, L⟩ : RowS Lt), ⟨a1, c1, M⟩]) 72
    have hA := (Below.refl z2.heap.size z2).alloc (Nat.le_refl _) (.cells #[.slice a0 L.length c0, .slice a1 M.length c1] 72)
    have hsL := hsL.below hA
    have hsM := hsM.below hA
    have hB := since_step hB hA
    clear hA
    refine (HJ.out _ _ hH (rows_two hsL hsM)).mono ?_
    rintro e z3 ⟨⟨A3x, c3x, rfl, own3x⟩, hb⟩
    have hB := since_step hB hb
    have hsL := hsL.below hb
    have hsM := hsM.below hb
    have hH := hH.below hb
    clear hb
    clear hH
    have h3x := Sl.of_own own3x
    clear own3x
    go_wp2_with fail
    go_loopw [7] (fun i wr => ∃ k : Nat, 1 ≤ k ∧ k ≤ 5 ∧ i = .int .i64 k ∧ Below w.heap.size w wr ∧ Below z3.heap.size z3 wr) (fun i _ => 5 - (intOf i).toNat)
    case atStart => exact ⟨1, by omega, by omega, rfl, hB, Below.refl _ _⟩
    case round =>
      obtain ⟨k, hk1, hk, rfl, hBr, hBW⟩ := hrel
      have hsL := hsL.below hBW
      have hsM := hsM.below hBW
      have h3x := h3x.below hBW
      clear hB
      by_cases hlt : k < 5
      · have hlk : (k : Int) ≤ 4 := by omega
        have hcz : Hid (cmpZ (qsL J k).sum ((qsL L k).sum + (qsL M k).sum) = 0) := Lib.hid (by rw [HSE.out]; unfold cmpZ; rw [if_pos rfl])
        have hBW2 := hBW
        clear hBW
        go_wp2_with fail
        refine (HSJ.out _ _ k _ h3x).mono ?_
        rintro e r1 ⟨⟨s1, B1, n1, d1, rfl, hf1, Y1⟩, hb⟩
        have hBr := since_step hBr hb
        have hBW2 := since_step hBW2 hb
        have hsL := hsL.below hb
        have hsM := hsM.below hb
        have h3x := h3x.below hb
        clear hb
        have L1 := Y1.l128 (H1.out k)
        obtain ⟨sJ, hsJ⟩ : ∃ s, (qsL J k).sum = s := ⟨_, rfl⟩
        rw [hsJ] at Y1 hcz
        clear hsJ
        go_wp2_with fail
        refine (HSA.out k _ hsL).mono ?_
        rintro e r2 ⟨⟨s2, B2, n2, d2, rfl, hf2, Y2⟩, hb⟩
        have hBr := since_step hBr hb
        have hBW2 := since_step hBW2 hb
        have hsL := hsL.below hb
        have hsM := hsM.below hb
        have h3x := h3x.below hb
        have Y1 := Y1.below hb
        clear hb
        have L2 := Y2.l128 (H2.out k)
        go_wp2_with fail
        refine (HSB.out k _ hsM).mono ?_
        rintro e r3 ⟨⟨s3, B3, n3, d3, rfl, hf3, Y3⟩, hb⟩
        have hBr := since_step hBr hb
        have hBW2 := since_step hBW2 hb
        have hsL := hsL.below hb
        have hsM := hsM.below hb
        have h3x := h3x.below hb
        have Y1 := Y1.below hb
        have Y2 := Y2.below hb
        clear hb
        have L3 := Y3.l128 (H3.out k)
        go_wp2_with fail
        refine (badd' (by omega) (by omega) Y2 Y3).mono ?_
        rintro e r4 ⟨⟨s4, B4, n4, d4, rfl, hf4, Y4⟩, hb⟩
        have hBr := since_step hBr hb
        have hBW2 := since_step hBW2 hb
        have hsL := hsL.below hb
        have hsM := hsM.below hb
        have h3x := h3x.below hb
        have Y1 := Y1.below hb
        have Y2 := Y2.below hb
        have Y3 := Y3.below hb
        clear hb
        have L4 := len_add Y2 Y3 Y4
        go_wp2_with fail
        refine (bcmp_any _ _ _ _ _ _ _ _ _ _ _ (by omega) (by omega) Y1 Y4).mono ?_
        rw [hcz.out]
        rintro e r5 ⟨rfl, hb⟩
        have hBr := since_step hBr hb
        have hBW2 := since_step hBW2 hb
        have hsL := hsL.below hb
        have hsM := hsM.below hb
        have h3x := h3x.below hb
        have Y1 := Y1.below hb
        have Y2 := Y2.below hb
        have Y3 := Y3.below hb
        have Y4 := Y4.below hb
        clear hb
        go_wp2_with fail
        go_roundw
        case rel => exact ⟨k + 1, by omega, by omega, by go_num, hBr, hBW2⟩
        case measure => simp [intOf]; omega
      · obtain rfl : k = 5 := by omega
        clear hBW hlt hk hk1 H1 H2 H3 HSE
        go_wp2_with fail
        have hH := Sl.new_ wr (rc RowS.cells [(⟨a1, c1, M⟩ : RowS Lt), ⟨a0, c0, L⟩]) 72
        have hA := (Below.refl wr.heap.size wr).alloc (Nat.le_refl _) (.cells #[.slice a1 M.length c1, .slice a0 L.length c0] 72)
        have hsL := hsL.below hA
        have hsM := hsM.below hA
        have h3x := h3x.below hA
        have hBr := since_step hBr hA
        clear hA
        refine (HK.out _ _ hH (rows_two hsM hsL)).mono ?_
        rintro e v1 ⟨⟨A4x, c4x, rfl, own4x⟩, hb⟩
        have hBr := since_step hBr hb
        have hsL := hsL.below hb
        have hsM := hsM.below hb
        have h3x := h3x.below hb
        have hH := hH.below hb
        clear hb
        clear hH
        have h4x := Sl.of_own own4x
        clear own4x
        go_wp2_with fail
        refine (HIS.out _ _ _ h3x).mono ?_
        rintro e v2 ⟨rfl, hb⟩
        have hBr := since_step hBr hb
        have hsL := hsL.below hb
        have hsM := hsM.below hb
        have h3x := h3x.below hb
        have h4x := h4x.below hb
        clear hb
        go_wp2_with fail
        refine (HSS.out _ _ _ _ _ h4x h3x).mono ?_
        rintro e v3 ⟨rfl, hb⟩
        have hBr := since_step hBr hb
        have hsL := hsL.below hb
        have hsM := hsM.below hb
        have h3x := h3x.below hb
        have h4x := h4x.below hb
        clear hb
        go_wp2_with fail
        refine (lives18_any _).mono ?_
        rintro e v4 ⟨rfl, hb⟩
        have hBr := since_step hBr hb
        have hsL := hsL.below hb
        have hsM := hsM.below hb
        have h3x := h3x.below hb
        have h4x := h4x.below hb
        clear hb
        go_wp2_with fail
        go_ret
        exact ⟨rfl, hBr⟩
  · have hje : J = [] := by have h := join_err (L := L ++ M) (m := []) (by rw [hJ]; exact hw); rw [hJ] at h; exact h
    subst hje
    have hjb : (jn == 0) = false := by simpa using hw
    simp only [List.length_nil] at HJ
    clear hw hJ hLq hMq hL20 hM20
    clear hL hq hlc hcm hM hq' hlc' hcm'
    go_enter Try.func12, Try.ntmps12
    go_wp2_with fail
    refine (HFW.out _ hs).mono ?_
    rintro e z1 ⟨rfl, hb⟩
    have hB := since_step hB hb
    have hs := hs.below hb
    have hs' := hs'.below hb
    have hsL := hsL.below hb
    have hsM := hsM.below hb
    clear hb
    clear hs
    go_wp2_with fail
    refine (HFM.out _ hs').mono ?_
    rintro e z2 ⟨rfl, hb⟩
    have hB := since_step hB hb
    have hs' := hs'.below hb
    have hsL := hsL.below hb
    have hsM := hsM.below hb
    clear hb
    clear hs'
    go_wp2_with fail
    have hH := Sl.new_ z2 (rc RowS.cells [(⟨a0, c0, L⟩ : RowS Lt), ⟨a1, c1, M⟩]) 72
    have hA := (Below.refl z2.heap.size z2).alloc (Nat.le_refl _) (.cells #[.slice a0 L.length c0, .slice a1 M.length c1] 72)
    have hsL := hsL.below hA
    have hsM := hsM.below hA
    have hB := since_step hB hA
    clear hA
    refine (HJ.out _ _ hH (rows_two hsL hsM)).mono ?_
    rintro e z3 ⟨⟨A3x, c3x, rfl, own3x⟩, hb⟩
    have hB := since_step hB hb
    have hsL := hsL.below hb
    have hsM := hsM.below hb
    have hH := hH.below hb
    clear hb
    clear hH
    clear own3x
    go_wp2_with fail
    refine (lives18_any _).mono ?_
    rintro e z4 ⟨rfl, hb⟩
    have hB := since_step hB hb
    have hsL := hsL.below hb
    have hsM := hsM.below hb
    clear hb
    go_wp2_with fail
    go_ret
    exact ⟨rfl, hB⟩

theorem drawR_len (l : List Lt) (a q : Int) : (drawR l a q).2.1.length ≤ l.length ∧ (drawR l a q).2.2.length ≤ l.length := by
  unfold drawR
  split
  · simp
  · split
    · simp
    · split
      · simp
      · exact ⟨Nat.le_trans (List.length_filter_le _ _) (Nat.le_of_eq (drawF_len a q l).1), Nat.le_trans (List.length_filter_le _ _) (Nat.le_of_eq (drawF_len a q l).2)⟩
theorem all_20 {α : Type} : ∀ {T : List (RowS α)}, (∀ s ∈ T, s.l.length ≤ 20) → (RowS.all T).length ≤ T.length * 20
  | [], _ => by simp [RowS.all]
  | s :: T, h => by
    have h1 := h s (by simp)
    have h2 := all_20 (T := T) fun r hr => h r (by simp [hr])
    rw [RowS.all_cons, List.length_append, List.length_cons]
    omega
def fewR (s : RowS Lt) : RowS Lt := ⟨s.A, s.c, s.l.take 20⟩
set_option maxHeartbeats 16000000 in
set_option maxRecDepth 100000 in
theorem walk_LotsDraws (a0 : Option Addr) (n0 c0 : Nat) (a1 : Int) (a2 : Int) (a3 : Option Addr) (n3 c3 : Nat) (w : World) (w0 : Rd w (.sl (.cat (.int .i64) (.cat (.int .i64) (.cat (.int .i64) .nil)))) [.slice a0 n0 c0]) (w1 : (Lit.int .i64 a1).wf = true) (w2 : (Lit.int .i64 a2).wf = true) (w3 : Rd w (.sl (.sl (.cat (.int .i64) (.cat (.int .i64) (.cat (.int .i64) .nil))))) [.slice a3 n3 c3]) :
    Calls Try.prog 10 #[.slice a0 n0 c0, .int .i64 a1, .int .i64 a2, .slice a3 n3 c3] w fun e w' => e = .returned (.bool true) ∧ Below w.heap.size w w' := by
  obtain ⟨l, rfl, hlc, hcm, hs, hq⟩ := rd_rowsP (f := Lt.cells) (fun r => rd_ltrow) w0
  obtain ⟨S, rfl, hsc, hscm, hS, hok⟩ := rd_rows2 (f := Lt.cells) (fun r => rd_ltrow) w3
  have hq6 : In64 a2 := bd_i64 w2
  clear w0 w1 w2 w3
  obtain ⟨L, hL⟩ : ∃ L, l.take 20 = L := ⟨_, rfl⟩
  have hL20 : L.length ≤ 20 := by rw [← hL]; simp; omega
  have hLq : ∀ y ∈ L, In64 y.qty := fun y hy => hq y (by rw [← hL] at hy; exact List.mem_of_mem_take hy)
  have hsL : Sl w a0 (rc Lt.cells L) := by rw [← hL, ← rc_take Lt.len]; exact hs.take _
  have HFW := few18_any a0 c0 l
  rw [hL] at HFW
  have HFW := Lib.hid (fun V h => HFW V hlc hcm h)
  have HD := Lib.hid (fun V h => ldraw_any a0 c0 L a1 a2 V (by omega) hq6 hLq h)
  have HRD := Lib.hid (fun V h => rdraw_any a0 c0 L a1 a2 V (by omega) hq6 hLq h)
  have hdl := drawR_len L a1 a2
  obtain ⟨dn, DL, RL, hDL⟩ : ∃ n R Q, drawR L a1 a2 = (n, R, Q) := ⟨_, _, _, rfl⟩
  rw [hDL] at HD HRD hdl
  have HSD := Lib.hid (fun A A2 c c2 V h1 h2 => rlsame_any_self A A2 c c2 DL V (by simp only at hdl; omega) h1 h2)
  have HSR := Lib.hid (fun A A2 c c2 V h1 h2 => rlsame_any_self A A2 c c2 RL V (by simp only at hdl; omega) h1 h2)
  unfold DRes at HD HRD
  simp only at HD HRD
  have HST : Hid (∀ k, (h : k < S.length) → ∀ V, Below w.heap.size w V → S[k].l.length ≤ S[k].c ∧ S[k].c ≤ maxLen ∧ Sl V S[k].A (rc Lt.cells S[k].l)) := Lib.hid fun k h V hV => by
    obtain ⟨h1, h2, h3, _⟩ := hok _ (List.getElem_mem h)
    exact ⟨h1, h2, h3.below hV⟩
  obtain ⟨TT, hTT⟩ : ∃ TT, (S.take 5).map fewR = TT := ⟨_, rfl⟩
  have hTl : TT.length ≤ 5 := by rw [← hTT]; simp; omega
  have hT20 : ∀ s ∈ TT, s.l.length ≤ 20 := fun s hs => by
    rw [← hTT] at hs
    obtain ⟨r, _, rfl⟩ := List.mem_map.1 hs
    simp [fewR]; omega
  have hTq : ∀ y ∈ RowS.all TT, In64 y.qty := fun y hy => by
    rw [RowS.all, List.mem_flatten] at hy
    obtain ⟨m, hm, hy⟩ := hy
    obtain ⟨s, hs, rfl⟩ := List.mem_map.1 hm
    rw [← hTT] at hs
    obtain ⟨r, hr, rfl⟩ := List.mem_map.1 hs
    exact (hok r (List.mem_of_mem_take hr)).2.2.2 y (List.mem_of_mem_take hy)
  have hTa := all_20 hT20
  have HTS : Hid (∀ V, Below w.heap.size w V → RowsOk V Lt.cells TT) := Lib.hid fun V hV s hs => by
    rw [← hTT] at hs
    obtain ⟨r, hr, rfl⟩ := List.mem_map.1 hs
    show Sl V r.A (rc Lt.cells (r.l.take 20))
    rw [← rc_take Lt.len]
    exact ((hok r (List.mem_of_mem_take hr)).2.2.1.below hV).take _
  have HJ := Lib.hid (fun A c V h1 h2 => ljoin_any A c TT V (by omega) (by omega) hTq h1 h2)
  have HRJ := Lib.hid (fun A c V h1 h2 => rjoin_any A c TT V (by omega) (fun s hs => by have := hT20 s hs; omega) hTq h1 h2)
  have hjl := joinF_len (RowS.all TT)
  obtain ⟨jn, J, hJ⟩ : ∃ n R, joinF [] (RowS.all TT) = (n, R) := ⟨_, _, rfl⟩
  rw [hJ] at HJ HRJ hjl
  have HSJ := Lib.hid (fun A A2 c c2 V h1 h2 => rlsame_any_self A A2 c c2 J V (by simp only at hjl; omega) h1 h2)
  unfold LRes at HJ HRJ
  simp only at HJ HRJ
  have hjn : (jn == jn) = true := by simp
  have hdn : (dn == dn) = true := by simp
  have HTT : Hid (∀ k, (h : k < S.length) → k < 5 → (S.take (k + 1)).map fewR = (S.take k).map fewR ++ [fewR S[k]]) := Lib.hid fun k h _ => by
    rw [List.take_succ_eq_append_getElem h, List.map_append]; rfl
  have HTE : Hid (∀ k, k ≤ S.length → k ≤ 5 → (¬ k < S.length ∨ ¬ k < 5) → (S.take k).map fewR = TT) := Lib.hid fun k h1 h2 h3 => by
    rw [← hTT]
    rcases h3 with h3 | h3
    · obtain rfl : k = S.length := by omega
      rw [List.take_length, List.take_of_length_le (by omega)]
    · obtain rfl : k = 5 := by omega
      rfl
  have hB := Below.refl w.heap.size w
  clear hL hq hlc hcm hok hTT hT20 hTq hTa hjl hdl hDL hJ hLq hL20 hq6 hsc hscm
  go_enter Try.func10, Try.ntmps10
  go_wp2_with fail
  refine (HFW.out _ hs).mono ?_
  rintro e z1 ⟨rfl, hb⟩
  have hB := since_step hB hb
  have hs := hs.below hb
  have hsL := hsL.below hb
  clear hb
  clear hs
  go_wp2_with fail
  refine (HD.out _ hsL).mono ?_
  rintro e z2 ⟨⟨A3x, c3x, A4x, c4x, rfl, own3x, own4x⟩, hb⟩
  have hB := since_step hB hb
  have hsL := hsL.below hb
  clear hb
  have h3x := Sl.of_own own3x
  have h4x := Sl.of_own own4x
  clear own3x own4x
  go_wp2_with fail
  refine (HRD.out _ hsL).mono ?_
  rintro e z3 ⟨⟨A5x, c5x, A6x, c6x, rfl, own5x, own6x⟩, hb⟩
  have hB := since_step hB hb
  have hsL := hsL.below hb
  have h3x := h3x.below hb
  have h4x := h4x.below hb
  clear hb
  have h5x := Sl.of_own own5x
  have h6x := Sl.of_own own6x
  clear own5x own6x
  clear hsL
  go_wp2_with fail
  go_loopw [15, 16] (fun fv i wr => ∃ (k : Nat) (A2 : Option Addr) (c2 : Nat), k ≤ S.length ∧ k ≤ 5 ∧ i = .int .i64 k ∧ fv = .slice A2 ((S.take k).map fewR).length c2 ∧ wr.ownsRow z3.heap.size 72 1 (.slice A2 ((S.take k).map fewR).length c2) ((S.take k).map fewR).length (rc RowS.cells ((S.take k).map fewR)) ∧ Below w.heap.size w wr ∧ Below z3.heap.size z3 wr) (fun _ i _ => S.length - (intOf i).toNat)
  case atStart => exact ⟨0, none, 0, by omega, by omega, rfl, rfl, own_nil _ _ _, hB, Below.refl _ _⟩
  case round =>
    obtain ⟨k, A2, c2, hk, hk5, rfl, rfl, own2, hBr, hBW⟩ := hrel
    by_cases hlt : k < S.length ∧ k < 5
    · obtain ⟨hlt, hlt5⟩ := hlt
      have hlk : (k : Int) < (S.length : Int) := by omega
      have hlk5 : (k : Int) < 5 := by omega
      obtain ⟨b, o, rfl, hbw, hg⟩ := (hS.below hBr).rowS hlt
      obtain ⟨i1, i2, i3⟩ := HST.out k hlt wr hBr
      have HT := Lib.hid (HTT.out k hlt hlt5)
      have hlen : ((S.take k).map fewR).length ≤ 5 := by simp; omega
      obtain ⟨s, hs1⟩ : ∃ s, S[k] = s := ⟨_, rfl⟩
      obtain ⟨R, hR⟩ : ∃ R, (S.take k).map fewR = R := ⟨_, rfl⟩
      rw [hs1] at hg i1 i2 i3 HT
      rw [hR] at own2 hlen HT ⊢
      have HFK := few18_any s.A s.c s.l wr i1 i2 i3
      obtain ⟨K, hK⟩ : ∃ K, s.l.take 20 = K := ⟨_, rfl⟩
      rw [show fewR s = ⟨s.A, s.c, K⟩ by unfold fewR; rw [hK]] at HT
      rw [hK] at HFK
      have HFK := Lib.hid HFK
      have hsz := hBW.size
      clear hs1 hR i1 i2 i3 hS hK
      go_wp2_with fail
      refine HFK.out.mono ?_
      rintro e v1 ⟨rfl, hb⟩
      have hB1 := since_step hBr hb
      have hBW1 := since_step hBW hb
      have own2 := own_below own2 hb
      have hsz1 := hBW1.size
      clear hb hbw hg
      go_wp2_with (first
        | (at_builtin; refine wpList_app rfl (.tmp 49) (.tmp 55) rfl ELtL rfl rfl (own2.alloc _) (m := 1) (news := [.slice s.A K.length s.c]) rfl (Sl.new_ _ _ _) (fun u hu => by simp only [List.mem_cons, List.not_mem_nil, or_false] at hu; subst hu; rfl) (by unfold maxLen; omega) (by omega) (by simp only [World.size_alloc]; omega) ?_; intro A3 c3' w3 own3 hg3 hb3)
        | fail)
      have hB3 := (since_alloc hBW1 (.cells #[.slice s.A K.length s.c] 72)).trans hb3
      have hB4 := (since_alloc hB1 (.cells #[.slice s.A K.length s.c] 72)).trans (hb3.mono hB.size)
      go_roundw
      case rel => exact ⟨k + 1, A3, c3', by omega, by omega, by go_num, by rw [HT.out, List.length_append]; rfl, by rw [HT.out, List.length_append, rc_append]; simpa [rc, RowS.cells] using own3, hB4, hB3⟩
      case measure => simp [intOf]; omega
    · have hend : ¬ ((k : Int) < (S.length : Int)) ∨ ((k : Int) < (S.length : Int) ∧ ¬ ((k : Int) < 5)) := by omega
      have hTE := HTE.out k hk hk5 (by omega)
      rw [hTE] at own2 ⊢
      have hT := Sl.of_own own2
      have hTS := HTS.out _ hBr
      have h3x := h3x.below hBW
      have h4x := h4x.below hBW
      have h5x := h5x.below hBW
      have h6x := h6x.below hBW
      clear hTE own2 hB hBW hS hlt
      rcases hend with h1 | ⟨h1, h2⟩
      all_goals
        go_wp2_with fail
        refine (HJ.out _ _ _ hT hTS).mono ?_
        rintro e v1 ⟨⟨A7x, c7x, rfl, own7x⟩, hb⟩
        have hBr := since_step hBr hb
        have hT := hT.below hb
        have hTS := hTS.below hb
        have h3x := h3x.below hb
        have h4x := h4x.below hb
        have h5x := h5x.below hb
        have h6x := h6x.below hb
        clear hb
        have h7x := Sl.of_own own7x
        clear own7x
        go_wp2_with fail
        refine (HRJ.out _ _ _ hT hTS).mono ?_
        rintro e v2 ⟨⟨A8x, c8x, rfl, own8x⟩, hb⟩
        have hBr := since_step hBr hb
        have hT := hT.below hb
        have hTS := hTS.below hb
        have h3x := h3x.below hb
        have h4x := h4x.below hb
        have h5x := h5x.below hb
        have h6x := h6x.below hb
        have h7x := h7x.below hb
        clear hb
        have h8x := Sl.of_own own8x
        clear own8x
        clear hT hTS
        go_wp2_with fail
        refine (HSD.out _ _ _ _ _ h3x h5x).mono ?_
        rintro e v3 ⟨rfl, hb⟩
        have hBr := since_step hBr hb
        have h3x := h3x.below hb
        have h4x := h4x.below hb
        have h5x := h5x.below hb
        have h6x := h6x.below hb
        have h7x := h7x.below hb
        have h8x := h8x.below hb
        clear hb
        go_wp2_with fail
        refine (HSR.out _ _ _ _ _ h4x h6x).mono ?_
        rintro e v4 ⟨rfl, hb⟩
        have hBr := since_step hBr hb
        have h3x := h3x.below hb
        have h4x := h4x.below hb
        have h5x := h5x.below hb
        have h6x := h6x.below hb
        have h7x := h7x.below hb
        have h8x := h8x.below hb
        clear hb
        go_wp2_with fail
        refine (HSJ.out _ _ _ _ _ h7x h8x).mono ?_
        rintro e v5 ⟨rfl, hb⟩
        have hBr := since_step hBr hb
        have h3x := h3x.below hb
        have h4x := h4x.below hb
        have h5x := h5x.below hb
        have h6x := h6x.below hb
        have h7x := h7x.below hb
        have h8x := h8x.below hb
        clear hb
        go_wp2_with fail
        refine (lives18_any _).mono ?_
        rintro e v6 ⟨rfl, hb⟩
        have hBr := since_step hBr hb
        have h3x := h3x.below hb
        have h4x := h4x.below hb
        have h5x := h5x.below hb
        have h6x := h6x.below hb
        have h7x := h7x.below hb
        have h8x := h8x.below hb
        clear hb
        go_wp2_with fail
        go_ret
        exact ⟨rfl, hBr⟩
end Go.Proofs.Ytfagpdnckmaomaa
