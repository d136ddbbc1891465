/-
  Layer 18, sixteenth part: LotsBack (laid by gen_lots16.py).
-/
import Derived.Test.YtfagpdnckmaomaaLots15
namespace Go.Proofs.Ytfagpdnckmaomaa
open Go.ChangeShapes Go.WideShapes Go.ChangeAt Go.RowKit
set_option linter.unusedVariables false
set_option linter.unusedSimpArgs false

theorem lots_in {l m : List Lt} (h : isLs l = true) (h6 : ∀ y ∈ l, In64 y.qty) (hm : ∀ y ∈ m, 0 < y.qty) (hle : ∀ a t, totL m a t ≤ totL l a t) : ∀ y ∈ m, In64 y.qty := fun y hy => by
  have h1 := totL_ge hm hy
  have h2 := hle y.ast y.tag
  have h3 := getL_in h6 y.ast y.tag
  rw [getL_tot ((isLs_iff l).1 h).2.2] at h3
  have h4 := hm y hy
  unfold In64 at *
  omega
theorem draw_all {l t r : List Lt} {a q : Int} (h6 : ∀ y ∈ l, In64 y.qty) (h : drawR l a q = (0, t, r)) : joinF [] (t ++ r) = (0, l) ∧ isLs t = true ∧ isLs r = true ∧ (qsL t a).sum = q ∧ (∀ y ∈ t, In64 y.qty) ∧ (∀ y ∈ r, In64 y.qty) := by
  obtain ⟨h1, h2, h3, h4⟩ := draw_back h6 h
  obtain ⟨j1, j2, _, _, _⟩ := join_ok h1 rfl
  refine ⟨h1, h2, h3, h4, ?_, ?_⟩
  · refine lots_in j1 h6 (isLs_pos h2) fun a t => ?_
    rw [j2, totL_append]
    have := totL_nn (isLs_pos h3) a t
    simp only [totL]; omega
  · refine lots_in j1 h6 (isLs_pos h3) fun a t => ?_
    rw [j2, totL_append]
    have := totL_nn (isLs_pos h2) a t
    simp only [totL]; omega

set_option maxHeartbeats 16000000 in
set_option maxRecDepth 100000 in
theorem walk_LotsBack (a0 : Option Addr) (n0 c0 : Nat) (a1 : Array Value) (a2 : Int) (w : World) (w0 : Rd w (.sl (.cat (.int .i64) (.cat (.int .i64) (.cat (.int .i64) .nil)))) [.slice a0 n0 c0]) (w1 : Rd w (.cat (.int .i64) (.cat (.int .i64) (.cat (.int .i64) .nil))) a1.toList) (w2 : (Lit.int .i64 a2).wf = true) :
    Calls Try.prog 11 #[.slice a0 n0 c0, .agg a1, .int .i64 a2] w fun e w' => e = .returned (.bool true) ∧ Below w.heap.size w w' := by
  obtain ⟨l, rfl, hlc, hcm, hs, hq⟩ := rd_rowsP (f := Lt.cells) (fun r => rd_ltrow) w0
  obtain ⟨v, hv, hv6⟩ := rd_ltv w1
  have hq6 : In64 a2 := bd_i64 w2
  rw [hv]
  clear hv w0 w1 w2
  obtain ⟨L, hL⟩ : ∃ L, l.take 20 = L := ⟨_, rfl⟩
  have hL20 : L.length ≤ 20 := by rw [← hL]; simp; omega
  have hLq : ∀ y ∈ L, In64 y.qty := fun y hy => hq y (by rw [← hL] at hy; exact List.mem_of_mem_take hy)
  have hsL : Sl w a0 (rc Lt.cells L) := by rw [← hL, ← rc_take Lt.len]; exact hs.take _
  have HFW := few18_any a0 c0 l
  rw [hL] at HFW
  have HFW := Lib.hid (fun V h => HFW V hlc hcm h)
  have hB := since_alloc (Below.refl _ w) (.cells v.cells.toArray 74)
  have hV := Lt.Bx.new w v
  have hs := hs.alloc (.cells v.cells.toArray 74)
  have hsL := hsL.alloc (.cells v.cells.toArray 74)
  have HP := Lib.hid (fun V h => lput_any a0 c0 L v V (by omega) hv6 hLq h)
  have HD := Lib.hid (fun V h => ldraw_any a0 c0 L v.ast a2 V (by omega) hq6 hLq h)
  have hpl := putLR_len L v
  obtain ⟨pn, PL, hPL⟩ : ∃ n R, putLR L v = (n, R) := ⟨_, _, rfl⟩
  obtain ⟨dn, DL, RL, hDL⟩ : ∃ n R Q, drawR L v.ast a2 = (n, R, Q) := ⟨_, _, _, rfl⟩
  rw [hPL] at HP hpl
  rw [hDL] at HD
  have hPl : PL.length ≤ 900000 := by simp only at hpl; omega
  have HSS := Lib.hid (fun A A2 c c2 V h1 h2 => rlsame_any_self A A2 c c2 L V (by omega) h1 h2)
  have HTK := Lib.hid (fun A c V h6 h => ltake_any A c PL v V hPl hv6 h6 h)
  have HIP := Lib.hid (fun A c V h => lis_any A c PL V (by omega) h)
  have HPX := Lib.hid (fun h : pn = 0 => put_take (hPL.trans (by rw [h])))
  have HPY := Lib.hid (fun h : pn = 0 => (put_is (hPL.trans (by rw [h]))).2.2.2 hLq)
  have HDX := Lib.hid (fun h : dn = 0 => draw_all hLq (hDL.trans (by rw [h])))
  have HDE := Lib.hid (fun h : dn ≠ 0 => draw_err (l := L) (a := v.ast) (q := a2) (by rw [hDL]; exact h))
  unfold LRes at HP
  unfold DRes at HD
  simp only at HP HD
  rw [hDL] at HDE
  have H6 := Lib.hid hq6
  clear hpl hPL hDL hL hq hLq hlc hcm hv6 hPl hL20 hq6
  have hways : (pn = 0 ∨ pn ≠ 0) ∧ (dn = 0 ∨ dn ≠ 0) := by omega
  obtain ⟨hw1, hw2⟩ := hways
  rcases hw1 with hw1 | hw1
  · rcases hw2 with hw2 | hw2
    · subst hw1
      obtain ⟨hTE, hI⟩ := HPX.out rfl
      have hP6 := HPY.out rfl
      have HTK := Lib.hid (fun A c V h => HTK.out A c V hP6 h)
      rw [hTE] at HTK
      rw [hI] at HIP
      unfold LRes at HTK
      simp only at HTK
      clear hTE hI hP6 HPX HPY
      subst hw2
      obtain ⟨hJ, hi1, hi2, hsm, h61, h62⟩ := HDX.out rfl
      have hl1 := isLs_len hi1
      have hl2 := isLs_len hi2
      have HJ := Lib.hid (fun A A1 A2 c1 c2 V h1 h2 => ljoin_any A 2 [⟨A1, c1, DL⟩, ⟨A2, c2, RL⟩] V (by simp) (by simp [RowS.all]; omega) (by simp only [RowS.all, List.map_cons, List.map_nil, List.flatten_cons, List.flatten_nil, List.append_nil]; intro y hy; rcases List.mem_append.1 hy with hy | hy; exact h61 y hy; exact h62 y hy) h1 h2)
      simp only [RowS.all, List.map_cons, List.map_nil, List.flatten_cons, List.flatten_nil, List.append_nil] at HJ
      rw [hJ] at HJ
      unfold LRes at HJ
      simp only [List.length_cons, List.length_nil] at HJ
      have HSM := Lib.hid (fun A c V h => lsum_any A c DL v.ast V (by omega) h61 h)
      rw [hsm] at HSM
      have HI1 := Lib.hid (fun A c V h => lis_any A c DL V (by omega) h)
      have HI2 := Lib.hid (fun A c V h => lis_any A c RL V (by omega) h)
      rw [hi1] at HI1
      rw [hi2] at HI2
      have HWD := Lib.hid (fun V => rwide_any a2 (by have := H6.out; unfold In64 In128 at *; omega) V)
      have HOF := Lib.hid (fun V => bof_any a2 V H6.out)
      have H128 : Hid (In128 a2) := Lib.hid (by have := H6.out; unfold In64 In128 at *; omega)
      clear hJ hi1 hi2 hsm h61 h62 hl1 hl2 HDX HDE
      obtain ⟨va, vt, vq⟩ := v
      unfold Lt.val at *
      unfold Lt.cells at hB hV
      simp only [Lt.cells] at hs hsL
      simp only at *
      go_enter Try.func11, Try.ntmps11
      go_upto_region 1 with fail
      generalize hWW : w.alloc (.cells #[.int .i64 va, .int .i64 vt, .int .i64 vq] 74) = W at *
      clear hWW
      obtain ⟨hV_0, hV_1, hV_2⟩ := hV.got
      have hV_l := hV.lt
      go_wp2_with fail
      refine (HFW.out _ hs).mono ?_
      rintro e z1 ⟨rfl, hb⟩
      have hB := since_step hB hb
      have hV := hV.below hb
      have hs := hs.below hb
      have hsL := hsL.below hb
      clear hb
      clear hV_0 hV_1 hV_2 hV_l
      clear hs
      obtain ⟨hV_0, hV_1, hV_2⟩ := hV.got
      have hV_l := hV.lt
      go_wp2_with fail
      refine (HP.out _ hsL).mono ?_
      rintro e z2 ⟨⟨A1x, c1x, rfl, own1x⟩, hb⟩
      have hB := since_step hB hb
      have hV := hV.below hb
      have hsL := hsL.below hb
      clear hb
      clear hV_0 hV_1 hV_2 hV_l
      have h1x := Sl.of_own own1x
      clear own1x
      obtain ⟨hV_0, hV_1, hV_2⟩ := hV.got
      have hV_l := hV.lt
      go_wp2_with fail
      refine (HTK.out _ _ _ h1x).mono ?_
      rintro e z3 ⟨⟨A2x, c2x, rfl, own2x⟩, hb⟩
      have hB := since_step hB hb
      have hV := hV.below hb
      have hsL := hsL.below hb
      have h1x := h1x.below hb
      clear hb
      clear hV_0 hV_1 hV_2 hV_l
      have h2x := Sl.of_own own2x
      clear own2x
      obtain ⟨hV_0, hV_1, hV_2⟩ := hV.got
      have hV_l := hV.lt
      go_wp2_with fail
      refine (HSS.out _ _ _ _ _ h2x hsL).mono ?_
      rintro e z4 ⟨rfl, hb⟩
      have hB := since_step hB hb
      have hV := hV.below hb
      have hsL := hsL.below hb
      have h1x := h1x.below hb
      have h2x := h2x.below hb
      clear hb
      clear hV_0 hV_1 hV_2 hV_l
      clear h2x
      obtain ⟨hV_0, hV_1, hV_2⟩ := hV.got
      have hV_l := hV.lt
      go_wp2_with fail
      refine (HIP.out _ _ _ h1x).mono ?_
      rintro e z5 ⟨rfl, hb⟩
      have hB := since_step hB hb
      have hV := hV.below hb
      have hsL := hsL.below hb
      have h1x := h1x.below hb
      clear hb
      clear hV_0 hV_1 hV_2 hV_l
      clear h1x
      obtain ⟨hV_0, hV_1, hV_2⟩ := hV.got
      have hV_l := hV.lt
      go_wp2_with fail
      refine (HD.out _ hsL).mono ?_
      rintro e z6 ⟨⟨A3x, c3x, A4x, c4x, rfl, own3x, own4x⟩, hb⟩
      have hB := since_step hB hb
      have hV := hV.below hb
      have hsL := hsL.below hb
      clear hb
      clear hV_0 hV_1 hV_2 hV_l
      have h3x := Sl.of_own own3x
      have h4x := Sl.of_own own4x
      clear own3x own4x
      obtain ⟨hV_0, hV_1, hV_2⟩ := hV.got
      have hV_l := hV.lt
      go_wp2_with fail
      have hH := Sl.new_ z6 (rc RowS.cells [(⟨A3x, c3x, DL⟩ : RowS Lt), ⟨A4x, c4x, RL⟩]) 72
      have hA := (Below.refl z6.heap.size z6).alloc (Nat.le_refl _) (.cells #[.slice A3x DL.length c3x, .slice A4x RL.length c4x] 72)
      have hV := hV.below hA
      have hsL := hsL.below hA
      have h3x := h3x.below hA
      have h4x := h4x.below hA
      have hB := since_step hB hA
      clear hA
      have hRO : RowsOk _ Lt.cells [(⟨A3x, c3x, DL⟩ : RowS Lt), ⟨A4x, c4x, RL⟩] := fun s hs => by
        rcases List.mem_cons.1 hs with rfl | hs
        · exact h3x
        · rcases List.mem_cons.1 hs with rfl | hs
          · exact h4x
          · cases hs
      refine (HJ.out _ _ _ _ _ _ hH hRO).mono ?_
      rintro e z7 ⟨⟨A5x, c5x, rfl, own5x⟩, hb⟩
      have hB := since_step hB hb
      clear hRO
      have hV := hV.below hb
      have hsL := hsL.below hb
      have h3x := h3x.below hb
      have h4x := h4x.below hb
      have hH := hH.below hb
      clear hb
      clear hV_0 hV_1 hV_2 hV_l
      have h5x := Sl.of_own own5x
      clear own5x
      clear hH
      obtain ⟨hV_0, hV_1, hV_2⟩ := hV.got
      have hV_l := hV.lt
      go_wp2_with fail
      refine (HSM.out _ _ _ h3x).mono ?_
      rintro e z8 ⟨rfl, hb⟩
      have hB := since_step hB hb
      have hV := hV.below hb
      have hsL := hsL.below hb
      have h3x := h3x.below hb
      have h4x := h4x.below hb
      have h5x := h5x.below hb
      clear hb
      clear hV_0 hV_1 hV_2 hV_l
      obtain ⟨hV_0, hV_1, hV_2⟩ := hV.got
      have hV_l := hV.lt
      go_wp2_with fail
      have hK := Bk.new z8 #[.int .i64 (hiN a2), .int .u64 (loN a2)] 52
      have hA := (Below.refl z8.heap.size z8).alloc (Nat.le_refl _) (.cells #[.int .i64 (hiN a2), .int .u64 (loN a2)] 52)
      have hV := hV.below hA
      have hsL := hsL.below hA
      have h3x := h3x.below hA
      have h4x := h4x.below hA
      have h5x := h5x.below hA
      have hB := since_step hB hA
      clear hA
      refine (HSS.out _ _ _ _ _ h5x hsL).mono ?_
      rintro e z9 ⟨rfl, hb⟩
      have hB := since_step hB hb
      have hV := hV.below hb
      have hsL := hsL.below hb
      have h3x := h3x.below hb
      have h4x := h4x.below hb
      have h5x := h5x.below hb
      have hK := hK.below hb
      clear hb
      clear hV_0 hV_1 hV_2 hV_l
      obtain ⟨hV_0, hV_1, hV_2⟩ := hV.got
      have hV_l := hV.lt
      go_wp2_with fail
      refine (HI1.out _ _ _ h3x).mono ?_
      rintro e z10 ⟨rfl, hb⟩
      have hB := since_step hB hb
      have hV := hV.below hb
      have hsL := hsL.below hb
      have h3x := h3x.below hb
      have h4x := h4x.below hb
      have h5x := h5x.below hb
      have hK := hK.below hb
      clear hb
      clear hV_0 hV_1 hV_2 hV_l
      obtain ⟨hV_0, hV_1, hV_2⟩ := hV.got
      have hV_l := hV.lt
      go_wp2_with fail
      refine (HI2.out _ _ _ h4x).mono ?_
      rintro e z11 ⟨rfl, hb⟩
      have hB := since_step hB hb
      have hV := hV.below hb
      have hsL := hsL.below hb
      have h3x := h3x.below hb
      have h4x := h4x.below hb
      have h5x := h5x.below hb
      have hK := hK.below hb
      clear hb
      clear hV_0 hV_1 hV_2 hV_l
      obtain ⟨lk, ck⟩ := id hK
      have k0 := ck 0
      have k1 := ck 1
      simp at k0 k1
      clear ck
      obtain ⟨hV_0, hV_1, hV_2⟩ := hV.got
      have hV_l := hV.lt
      go_wp2_with fail
      refine (HWD.out _).mono ?_
      rintro e z12 ⟨⟨s1, B1, n1, d1, rfl, hf1, Y1⟩, hb⟩
      have hB := since_step hB hb
      have hV := hV.below hb
      have hsL := hsL.below hb
      have h3x := h3x.below hb
      have h4x := h4x.below hb
      have h5x := h5x.below hb
      have hK := hK.below hb
      clear hb
      clear hV_0 hV_1 hV_2 hV_l
      have L1 := Y1.l128 H128.out
      clear k0 k1 lk
      obtain ⟨hV_0, hV_1, hV_2⟩ := hV.got
      have hV_l := hV.lt
      go_wp2_with fail
      refine (HOF.out _).mono ?_
      rintro e z13 ⟨⟨s2, B2, n2, d2, rfl, hf2, Y2⟩, hb⟩
      have hB := since_step hB hb
      have hV := hV.below hb
      have hsL := hsL.below hb
      have h3x := h3x.below hb
      have h4x := h4x.below hb
      have h5x := h5x.below hb
      have hK := hK.below hb
      have Y1 := Y1.below hb
      clear hb
      clear hV_0 hV_1 hV_2 hV_l
      have L2 := Y2.l64 H6.out
      obtain ⟨hV_0, hV_1, hV_2⟩ := hV.got
      have hV_l := hV.lt
      go_wp2_with fail
      refine (bcmp_any _ _ _ _ _ _ _ _ _ _ _ (by omega) (by omega) Y1 Y2).mono ?_
      rw [show cmpZ a2 a2 = 0 by unfold cmpZ; rw [if_pos rfl]]
      rintro e z14 ⟨rfl, hb⟩
      have hB := since_step hB hb
      have hV := hV.below hb
      have hsL := hsL.below hb
      have h3x := h3x.below hb
      have h4x := h4x.below hb
      have h5x := h5x.below hb
      have hK := hK.below hb
      have Y1 := Y1.below hb
      have Y2 := Y2.below hb
      clear hb
      clear hV_0 hV_1 hV_2 hV_l
      obtain ⟨hV_0, hV_1, hV_2⟩ := hV.got
      have hV_l := hV.lt
      go_wp2_with fail
      refine (lives18_any _).mono ?_
      rintro e z15 ⟨rfl, hb⟩
      have hB := since_step hB hb
      have hV := hV.below hb
      have hsL := hsL.below hb
      have h3x := h3x.below hb
      have h4x := h4x.below hb
      have h5x := h5x.below hb
      have hK := hK.below hb
      have Y1 := Y1.below hb
      have Y2 := Y2.below hb
      clear hb
      clear hV_0 hV_1 hV_2 hV_l
      obtain ⟨hV_0, hV_1, hV_2⟩ := hV.got
      have hV_l := hV.lt
      go_wp2_with fail
      go_ret
      exact ⟨rfl, hB⟩
    · subst hw1
      obtain ⟨hTE, hI⟩ := HPX.out rfl
      have hP6 := HPY.out rfl
      have HTK := Lib.hid (fun A c V h => HTK.out A c V hP6 h)
      rw [hTE] at HTK
      rw [hI] at HIP
      unfold LRes at HTK
      simp only at HTK
      clear hTE hI hP6 HPX HPY
      have hde := HDE.out hw2
      simp only [Prod.mk.injEq] at hde
      obtain ⟨rfl, rfl⟩ := hde
      have hdb : (dn == 0) = false := by simpa using hw2
      clear hw2 HDX HDE
      simp only [List.length_nil] at HD
      obtain ⟨va, vt, vq⟩ := v
      unfold Lt.val at *
      unfold Lt.cells at hB hV
      simp only [Lt.cells] at hs hsL
      simp only at *
      go_enter Try.func11, Try.ntmps11
      go_upto_region 1 with fail
      generalize hWW : w.alloc (.cells #[.int .i64 va, .int .i64 vt, .int .i64 vq] 74) = W at *
      clear hWW
      obtain ⟨hV_0, hV_1, hV_2⟩ := hV.got
      have hV_l := hV.lt
      go_wp2_with fail
      refine (HFW.out _ hs).mono ?_
      rintro e z1 ⟨rfl, hb⟩
      have hB := since_step hB hb
      have hV := hV.below hb
      have hs := hs.below hb
      have hsL := hsL.below hb
      clear hb
      clear hV_0 hV_1 hV_2 hV_l
      clear hs
      obtain ⟨hV_0, hV_1, hV_2⟩ := hV.got
      have hV_l := hV.lt
      go_wp2_with fail
      refine (HP.out _ hsL).mono ?_
      rintro e z2 ⟨⟨A1x, c1x, rfl, own1x⟩, hb⟩
      have hB := since_step hB hb
      have hV := hV.below hb
      have hsL := hsL.below hb
      clear hb
      clear hV_0 hV_1 hV_2 hV_l
      have h1x := Sl.of_own own1x
      clear own1x
      obtain ⟨hV_0, hV_1, hV_2⟩ := hV.got
      have hV_l := hV.lt
      go_wp2_with fail
      refine (HTK.out _ _ _ h1x).mono ?_
      rintro e z3 ⟨⟨A2x, c2x, rfl, own2x⟩, hb⟩
      have hB := since_step hB hb
      have hV := hV.below hb
      have hsL := hsL.below hb
      have h1x := h1x.below hb
      clear hb
      clear hV_0 hV_1 hV_2 hV_l
      have h2x := Sl.of_own own2x
      clear own2x
      obtain ⟨hV_0, hV_1, hV_2⟩ := hV.got
      have hV_l := hV.lt
      go_wp2_with fail
      refine (HSS.out _ _ _ _ _ h2x hsL).mono ?_
      rintro e z4 ⟨rfl, hb⟩
      have hB := since_step hB hb
      have hV := hV.below hb
      have hsL := hsL.below hb
      have h1x := h1x.below hb
      have h2x := h2x.below hb
      clear hb
      clear hV_0 hV_1 hV_2 hV_l
      clear h2x
      obtain ⟨hV_0, hV_1, hV_2⟩ := hV.got
      have hV_l := hV.lt
      go_wp2_with fail
      refine (HIP.out _ _ _ h1x).mono ?_
      rintro e z5 ⟨rfl, hb⟩
      have hB := since_step hB hb
      have hV := hV.below hb
      have hsL := hsL.below hb
      have h1x := h1x.below hb
      clear hb
      clear hV_0 hV_1 hV_2 hV_l
      clear h1x
      obtain ⟨hV_0, hV_1, hV_2⟩ := hV.got
      have hV_l := hV.lt
      go_wp2_with fail
      refine (HD.out _ hsL).mono ?_
      rintro e z6 ⟨⟨A3x, c3x, A4x, c4x, rfl, own3x, own4x⟩, hb⟩
      have hB := since_step hB hb
      have hV := hV.below hb
      have hsL := hsL.below hb
      clear hb
      clear hV_0 hV_1 hV_2 hV_l
      have h3x := Sl.of_own own3x
      have h4x := Sl.of_own own4x
      clear own3x own4x
      obtain ⟨hV_0, hV_1, hV_2⟩ := hV.got
      have hV_l := hV.lt
      go_wp2_with fail
      refine (lives18_any _).mono ?_
      rintro e z7 ⟨rfl, hb⟩
      have hB := since_step hB hb
      have hV := hV.below hb
      have hsL := hsL.below hb
      have h3x := h3x.below hb
      have h4x := h4x.below hb
      clear hb
      clear hV_0 hV_1 hV_2 hV_l
      obtain ⟨hV_0, hV_1, hV_2⟩ := hV.got
      have hV_l := hV.lt
      go_wp2_with fail
      go_ret
      exact ⟨rfl, hB⟩
  · rcases hw2 with hw2 | hw2
    · have hpb : (pn == 0) = false := by simpa using hw1
      clear hw1 HPX HPY HTK HIP
      subst hw2
      obtain ⟨hJ, hi1, hi2, hsm, h61, h62⟩ := HDX.out rfl
      have hl1 := isLs_len hi1
      have hl2 := isLs_len hi2
      have HJ := Lib.hid (fun A A1 A2 c1 c2 V h1 h2 => ljoin_any A 2 [⟨A1, c1, DL⟩, ⟨A2, c2, RL⟩] V (by simp) (by simp [RowS.all]; omega) (by simp only [RowS.all, List.map_cons, List.map_nil, List.flatten_cons, List.flatten_nil, List.append_nil]; intro y hy; rcases List.mem_append.1 hy with hy | hy; exact h61 y hy; exact h62 y hy) h1 h2)
      simp only [RowS.all, List.map_cons, List.map_nil, List.flatten_cons, List.flatten_nil, List.append_nil] at HJ
      rw [hJ] at HJ
      unfold LRes at HJ
      simp only [List.length_cons, List.length_nil] at HJ
      have HSM := Lib.hid (fun A c V h => lsum_any A c DL v.ast V (by omega) h61 h)
      rw [hsm] at HSM
      have HI1 := Lib.hid (fun A c V h => lis_any A c DL V (by omega) h)
      have HI2 := Lib.hid (fun A c V h => lis_any A c RL V (by omega) h)
      rw [hi1] at HI1
      rw [hi2] at HI2
      have HWD := Lib.hid (fun V => rwide_any a2 (by have := H6.out; unfold In64 In128 at *; omega) V)
      have HOF := Lib.hid (fun V => bof_any a2 V H6.out)
      have H128 : Hid (In128 a2) := Lib.hid (by have := H6.out; unfold In64 In128 at *; omega)
      clear hJ hi1 hi2 hsm h61 h62 hl1 hl2 HDX HDE
      obtain ⟨va, vt, vq⟩ := v
      unfold Lt.val at *
      unfold Lt.cells at hB hV
      simp only [Lt.cells] at hs hsL
      simp only at *
      go_enter Try.func11, Try.ntmps11
      go_upto_region 1 with fail
      generalize hWW : w.alloc (.cells #[.int .i64 va, .int .i64 vt, .int .i64 vq] 74) = W at *
      clear hWW
      obtain ⟨hV_0, hV_1, hV_2⟩ := hV.got
      have hV_l := hV.lt
      go_wp2_with fail
      refine (HFW.out _ hs).mono ?_
      rintro e z1 ⟨rfl, hb⟩
      have hB := since_step hB hb
      have hV := hV.below hb
      have hs := hs.below hb
      have hsL := hsL.below hb
      clear hb
      clear hV_0 hV_1 hV_2 hV_l
      clear hs
      obtain ⟨hV_0, hV_1, hV_2⟩ := hV.got
      have hV_l := hV.lt
      go_wp2_with fail
      refine (HP.out _ hsL).mono ?_
      rintro e z2 ⟨⟨A1x, c1x, rfl, own1x⟩, hb⟩
      have hB := since_step hB hb
      have hV := hV.below hb
      have hsL := hsL.below hb
      clear hb
      clear hV_0 hV_1 hV_2 hV_l
      have h1x := Sl.of_own own1x
      clear own1x
      clear h1x
      obtain ⟨hV_0, hV_1, hV_2⟩ := hV.got
      have hV_l := hV.lt
      go_wp2_with fail
      refine (HD.out _ hsL).mono ?_
      rintro e z3 ⟨⟨A3x, c3x, A4x, c4x, rfl, own3x, own4x⟩, hb⟩
      have hB := since_step hB hb
      have hV := hV.below hb
      have hsL := hsL.below hb
      clear hb
      clear hV_0 hV_1 hV_2 hV_l
      have h3x := Sl.of_own own3x
      have h4x := Sl.of_own own4x
      clear own3x own4x
      obtain ⟨hV_0, hV_1, hV_2⟩ := hV.got
      have hV_l := hV.lt
      go_wp2_with fail
      have hH := Sl.new_ z3 (rc RowS.cells [(⟨A3x, c3x, DL⟩ : RowS Lt), ⟨A4x, c4x, RL⟩]) 72
      have hA := (Below.refl z3.heap.size z3).alloc (Nat.le_refl _) (.cells #[.slice A3x DL.length c3x, .slice A4x RL.length c4x] 72)
      have hV := hV.below hA
      have hsL := hsL.below hA
      have h3x := h3x.below hA
      have h4x := h4x.below hA
      have hB := since_step hB hA
      clear hA
      have hRO : RowsOk _ Lt.cells [(⟨A3x, c3x, DL⟩ : RowS Lt), ⟨A4x, c4x, RL⟩] := fun s hs => by
        rcases List.mem_cons.1 hs with rfl | hs
        · exact h3x
        · rcases List.mem_cons.1 hs with rfl | hs
          · exact h4x
          · cases hs
      refine (HJ.out _ _ _ _ _ _ hH hRO).mono ?_
      rintro e z4 ⟨⟨A5x, c5x, rfl, own5x⟩, hb⟩
      have hB := since_step hB hb
      clear hRO
      have hV := hV.below hb
      have hsL := hsL.below hb
      have h3x := h3x.below hb
      have h4x := h4x.below hb
      have hH := hH.below hb
      clear hb
      clear hV_0 hV_1 hV_2 hV_l
      have h5x := Sl.of_own own5x
      clear own5x
      clear hH
      obtain ⟨hV_0, hV_1, hV_2⟩ := hV.got
      have hV_l := hV.lt
      go_wp2_with fail
      refine (HSM.out _ _ _ h3x).mono ?_
      rintro e z5 ⟨rfl, hb⟩
      have hB := since_step hB hb
      have hV := hV.below hb
      have hsL := hsL.below hb
      have h3x := h3x.below hb
      have h4x := h4x.below hb
      have h5x := h5x.below hb
      clear hb
      clear hV_0 hV_1 hV_2 hV_l
      obtain ⟨hV_0, hV_1, hV_2⟩ := hV.got
      have hV_l := hV.lt
      go_wp2_with fail
      have hK := Bk.new z5 #[.int .i64 (hiN a2), .int .u64 (loN a2)] 52
      have hA := (Below.refl z5.heap.size z5).alloc (Nat.le_refl _) (.cells #[.int .i64 (hiN a2), .int .u64 (loN a2)] 52)
      have hV := hV.below hA
      have hsL := hsL.below hA
      have h3x := h3x.below hA
      have h4x := h4x.below hA
      have h5x := h5x.below hA
      have hB := since_step hB hA
      clear hA
      refine (HSS.out _ _ _ _ _ h5x hsL).mono ?_
      rintro e z6 ⟨rfl, hb⟩
      have hB := since_step hB hb
      have hV := hV.below hb
      have hsL := hsL.below hb
      have h3x := h3x.below hb
      have h4x := h4x.below hb
      have h5x := h5x.below hb
      have hK := hK.below hb
      clear hb
      clear hV_0 hV_1 hV_2 hV_l
      obtain ⟨hV_0, hV_1, hV_2⟩ := hV.got
      have hV_l := hV.lt
      go_wp2_with fail
      refine (HI1.out _ _ _ h3x).mono ?_
      rintro e z7 ⟨rfl, hb⟩
      have hB := since_step hB hb
      have hV := hV.below hb
      have hsL := hsL.below hb
      have h3x := h3x.below hb
      have h4x := h4x.below hb
      have h5x := h5x.below hb
      have hK := hK.below hb
      clear hb
      clear hV_0 hV_1 hV_2 hV_l
      obtain ⟨hV_0, hV_1, hV_2⟩ := hV.got
      have hV_l := hV.lt
      go_wp2_with fail
      refine (HI2.out _ _ _ h4x).mono ?_
      rintro e z8 ⟨rfl, hb⟩
      have hB := since_step hB hb
      have hV := hV.below hb
      have hsL := hsL.below hb
      have h3x := h3x.below hb
      have h4x := h4x.below hb
      have h5x := h5x.below hb
      have hK := hK.below hb
      clear hb
      clear hV_0 hV_1 hV_2 hV_l
      obtain ⟨lk, ck⟩ := id hK
      have k0 := ck 0
      have k1 := ck 1
      simp at k0 k1
      clear ck
      obtain ⟨hV_0, hV_1, hV_2⟩ := hV.got
      have hV_l := hV.lt
      go_wp2_with fail
      refine (HWD.out _).mono ?_
      rintro e z9 ⟨⟨s1, B1, n1, d1, rfl, hf1, Y1⟩, hb⟩
      have hB := since_step hB hb
      have hV := hV.below hb
      have hsL := hsL.below hb
      have h3x := h3x.below hb
      have h4x := h4x.below hb
      have h5x := h5x.below hb
      have hK := hK.below hb
      clear hb
      clear hV_0 hV_1 hV_2 hV_l
      have L1 := Y1.l128 H128.out
      clear k0 k1 lk
      obtain ⟨hV_0, hV_1, hV_2⟩ := hV.got
      have hV_l := hV.lt
      go_wp2_with fail
      refine (HOF.out _).mono ?_
      rintro e z10 ⟨⟨s2, B2, n2, d2, rfl, hf2, Y2⟩, hb⟩
      have hB := since_step hB hb
      have hV := hV.below hb
      have hsL := hsL.below hb
      have h3x := h3x.below hb
      have h4x := h4x.below hb
      have h5x := h5x.below hb
      have hK := hK.below hb
      have Y1 := Y1.below hb
      clear hb
      clear hV_0 hV_1 hV_2 hV_l
      have L2 := Y2.l64 H6.out
      obtain ⟨hV_0, hV_1, hV_2⟩ := hV.got
      have hV_l := hV.lt
      go_wp2_with fail
      refine (bcmp_any _ _ _ _ _ _ _ _ _ _ _ (by omega) (by omega) Y1 Y2).mono ?_
      rw [show cmpZ a2 a2 = 0 by unfold cmpZ; rw [if_pos rfl]]
      rintro e z11 ⟨rfl, hb⟩
      have hB := since_step hB hb
      have hV := hV.below hb
      have hsL := hsL.below hb
      have h3x := h3x.below hb
      have h4x := h4x.below hb
      have h5x := h5x.below hb
      have hK := hK.below hb
      have Y1 := Y1.below hb
      have Y2 := Y2.below hb
      clear hb
      clear hV_0 hV_1 hV_2 hV_l
      obtain ⟨hV_0, hV_1, hV_2⟩ := hV.got
      have hV_l := hV.lt
      go_wp2_with fail
      refine (lives18_any _).mono ?_
      rintro e z12 ⟨rfl, hb⟩
      have hB := since_step hB hb
      have hV := hV.below hb
      have hsL := hsL.below hb
      have h3x := h3x.below hb
      have h4x := h4x.below hb
      have h5x := h5x.below hb
      have hK := hK.below hb
      have Y1 := Y1.below hb
      have Y2 := Y2.below hb
      clear hb
      clear hV_0 hV_1 hV_2 hV_l
      obtain ⟨hV_0, hV_1, hV_2⟩ := hV.got
      have hV_l := hV.lt
      go_wp2_with fail
      go_ret
      exact ⟨rfl, hB⟩
    · have hpb : (pn == 0) = false := by simpa using hw1
      clear hw1 HPX HPY HTK HIP
      have hde := HDE.out hw2
      simp only [Prod.mk.injEq] at hde
      obtain ⟨rfl, rfl⟩ := hde
      have hdb : (dn == 0) = false := by simpa using hw2
      clear hw2 HDX HDE
      simp only [List.length_nil] at HD
      obtain ⟨va, vt, vq⟩ := v
      unfold Lt.val at *
      unfold Lt.cells at hB hV
      simp only [Lt.cells] at hs hsL
      simp only at *
      go_enter Try.func11, Try.ntmps11
      go_upto_region 1 with fail
      generalize hWW : w.alloc (.cells #[.int .i64 va, .int .i64 vt, .int .i64 vq] 74) = W at *
      clear hWW
      obtain ⟨hV_0, hV_1, hV_2⟩ := hV.got
      have hV_l := hV.lt
      go_wp2_with fail
      refine (HFW.out _ hs).mono ?_
      rintro e z1 ⟨rfl, hb⟩
      have hB := since_step hB hb
      have hV := hV.below hb
      have hs := hs.below hb
      have hsL := hsL.below hb
      clear hb
      clear hV_0 hV_1 hV_2 hV_l
      clear hs
      obtain ⟨hV_0, hV_1, hV_2⟩ := hV.got
      have hV_l := hV.lt
      go_wp2_with fail
      refine (HP.out _ hsL).mono ?_
      rintro e z2 ⟨⟨A1x, c1x, rfl, own1x⟩, hb⟩
      have hB := since_step hB hb
      have hV := hV.below hb
      have hsL := hsL.below hb
      clear hb
      clear hV_0 hV_1 hV_2 hV_l
      have h1x := Sl.of_own own1x
      clear own1x
      clear h1x
      obtain ⟨hV_0, hV_1, hV_2⟩ := hV.got
      have hV_l := hV.lt
      go_wp2_with fail
      refine (HD.out _ hsL).mono ?_
      rintro e z3 ⟨⟨A3x, c3x, A4x, c4x, rfl, own3x, own4x⟩, hb⟩
      have hB := since_step hB hb
      have hV := hV.below hb
      have hsL := hsL.below hb
      clear hb
      clear hV_0 hV_1 hV_2 hV_l
      have h3x := Sl.of_own own3x
      have h4x := Sl.of_own own4x
      clear own3x own4x
      obtain ⟨hV_0, hV_1, hV_2⟩ := hV.got
      have hV_l := hV.lt
      go_wp2_with fail
      refine (lives18_any _).mono ?_
      rintro e z4 ⟨rfl, hb⟩
      have hB := since_step hB hb
      have hV := hV.below hb
      have hsL := hsL.below hb
      have h3x := h3x.below hb
      have h4x := h4x.below hb
      clear hb
      clear hV_0 hV_1 hV_2 hV_l
      obtain ⟨hV_0, hV_1, hV_2⟩ := hV.got
      have hV_l := hV.lt
      go_wp2_with fail
      go_ret
      exact ⟨rfl, hB⟩
end Go.Proofs.Ytfagpdnckmaomaa
