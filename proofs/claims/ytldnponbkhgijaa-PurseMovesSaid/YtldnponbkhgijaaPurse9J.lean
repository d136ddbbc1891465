import Derived.Test.YtldnponbkhgijaaPurse8J
/-
  Layer 17, ninth part: PurseTurns, PurseMoves (laid by gen_purse9.py).
-/
namespace Go.Proofs.Ytldnponbkhgijaa
open Go.ChangeShapes Go.WideShapes Go.ChangeAt Go.RowKit
set_option linter.unusedVariables false
set_option linter.unusedSimpArgs false

theorem payR_len (l fs : List Fw) : (payR l fs).2.length ≤ l.length + fs.length := by
  unfold payR
  split
  · simp
  · split
    · simp
    · have h1 := outU_len (l ++ fs) (unitsU (l ++ fs))
      have h2 := unitsU_len (l ++ fs)
      rw [List.length_append] at h2
      show (outU (l ++ fs) (unitsU (l ++ fs))).length ≤ _
      omega
theorem rev_step (M : List Fw) (k : Nat) (h : k < M.length) : (M.drop k).reverse = (M.drop (k + 1)).reverse ++ [M[k]] := by
  rw [List.drop_eq_getElem_cons h, List.reverse_cons]
set_option maxHeartbeats 16000000 in
set_option maxRecDepth 100000 in
theorem walk_PurseTurns (a0 : Option Addr) (n0 c0 : Nat) (a1 : Option Addr) (n1 c1 : Nat) (w : World) (w0 : Rd w (.sl (.cat (.cat (.int .i64) (.cat (.int .i64) .nil)) (.cat (.int .i64) .nil))) [.slice a0 n0 c0]) (w1 : Rd w (.sl (.cat (.cat (.int .i64) (.cat (.int .i64) .nil)) (.cat (.int .i64) .nil))) [.slice a1 n1 c1]) :
    Calls Try.prog 5 #[.slice a0 n0 c0, .slice a1 n1 c1] w fun e w' => e = .returned (.bool true) ∧ Below w.heap.size w w' := by
  obtain ⟨L, hL20, hLq, hsL, HF1⟩ := rd_fws w0
  obtain ⟨M, hM20, hMq, hsM, HF2⟩ := rd_fws w1
  clear w0 w1
  have HF1 := Lib.hid (HF1.out w (Below.refl _ _))
  have hall : ∀ x ∈ L ++ M, Fw.in_ x := fun x hx => by
    rcases List.mem_append.1 hx with hx | hx
    · exact hLq x hx
    · exact hMq x hx
  have hall2 : ∀ x ∈ L ++ M.reverse, Fw.in_ x := fun x hx => hall x (by simpa using hx)
  have HP := Lib.hid (fun V h1 h2 => ppay_any a0 a1 c0 c1 L M V (by omega) (by omega) hall h1 h2)
  have HRP := Lib.hid (fun A c V h1 h2 => ppay_any a0 A c0 c L M.reverse V (by omega) (by rw [List.length_reverse]; omega) hall2 h1 h2)
  rw [payR_reverse, List.length_reverse] at HRP
  have hpl := payR_len L M
  obtain ⟨pn, PL, hPL⟩ : ∃ n R, payR L M = (n, R) := ⟨_, _, rfl⟩
  rw [hPL] at HP HRP hpl
  have hpl2 : PL.length ≤ 1000000 := by simp only at hpl; omega
  have HSM := Lib.hid (fun A A2 c c2 V h1 h2 => rpsame_any_self A A2 c c2 PL V hpl2 h1 h2)
  unfold PRes at HP HRP
  simp only at HP HRP
  have HLV := Lib.hid (fun V => lives17_any V)
  have hpn : (pn == pn) = true := by simp
  clear hLq hMq hall hall2 hpl hPL hpl2
  go_enter Try.func5, Try.ntmps5
  go_wp2_with fail
  refine HF1.out.mono ?_
  rintro e z1 ⟨rfl, hb⟩
  have HF2 := Lib.hid (HF2.out _ hb)
  go_wp2_with fail
  refine HF2.out.mono ?_
  rintro e z2 ⟨rfl, hb2⟩
  have hB := since_step hb hb2
  have hsL := hsL.below hB
  have hsM := hsM.below hB
  clear hb hb2 HF1 HF2
  go_wp2_with fail
  go_loopw [5, 6] (fun bv iv wr => ∃ (k : Nat) (A' : Option Addr) (c' : Nat), k ≤ M.length ∧ iv = .int .i64 k ∧ bv = .slice A' (M.length - k) c' ∧ wr.ownsRow z2.heap.size 48 3 (.slice A' (M.length - k) c') (M.length - k) (rc Fw.cells (M.drop k).reverse) ∧ Below z2.heap.size z2 wr) (fun _ iv _ => (intOf iv).toNat)
  case atStart => exact ⟨M.length, none, 0, by omega, rfl, by simp, by simpa [rc] using own_nil z2.heap.size 48 3, Below.refl _ _⟩
  case round =>
    obtain ⟨k, A', c', hk, rfl, rfl, hO, hBz⟩ := hrel
    rcases Nat.eq_zero_or_pos k with rfl | h0
    · have hO := Sl.of_own hO
      simp only [List.drop_zero, Nat.sub_zero] at hO ⊢
      have hsL := hsL.below hBz
      have hsM := hsM.below hBz
      have hB := since_step hB hBz
      have hz : ¬ (0 : Int) < 0 := by omega
      clear hBz
      go_wp2_with fail
      refine (HP.out _ hsL hsM).mono ?_
      rintro e y1 ⟨⟨A1x, c1x, rfl, h1x⟩, hb⟩
      have hB := since_step hB hb
      have hsL := hsL.below hb
      have hO := hO.below hb
      clear hb hsM
      go_wp2_with fail
      refine (HRP.out _ _ _ hsL hO).mono ?_
      rintro e y2 ⟨⟨A2x, c2x, rfl, h2x⟩, hb⟩
      have hB := since_step hB hb
      have h1x := h1x.below hb
      clear hb hsL hO
      go_wp2_with fail
      refine (HSM.out _ _ _ _ _ h1x h2x).mono ?_
      rintro e y3 ⟨rfl, hb⟩
      have hB := since_step hB hb
      clear hb h1x h2x
      go_wp2_with fail
      refine (HLV.out _).mono ?_
      rintro e y4 ⟨rfl, hb⟩
      have hB := since_step hB hb
      go_wp2_with fail
      go_ret
      exact ⟨rfl, hB⟩
    · obtain ⟨j, rfl⟩ : ∃ j, k = j + 1 := ⟨k - 1, by omega⟩
      have hj : j < M.length := by omega
      obtain ⟨b, o, rfl, hbw, hg⟩ := (hsM.below hBz).fw hj
      have HRV := Lib.hid (rev_step M j hj)
      have hw1 : IntKind.i64.wrap ((j : Int) + 1 - 1) = (j : Int) := by rw [IntWalk.i64_in _ (by omega)]; omega
      have hj1 : IntKind.i64.wrap (j : Int) = (j : Int) := IntWalk.i64_in _ (by omega)
      have hj2 : (0 : Int) ≤ (j : Int) := by omega
      have hj3 : (j : Int) < (M.length : Int) := by omega
      have hj7 : (0 : Int) < (j : Int) + 1 := by omega
      generalize M[j] = v at *
      obtain ⟨va, vc, vq⟩ := v
      obtain ⟨g0, g1, g2⟩ := hg
      simp only at g0 g1 g2
      have hsz := hBz.size
      go_wp2_with (first
        | (at_builtin; refine wpList_app rfl (.tmp 21) (.tmp 27) rfl EFw rfl rfl (hO.alloc _) (m := 1) (news := [.int .i64 va, .int .i64 vc, .int .i64 vq]) rfl (Sl.new_ _ _ _) (Fw.one ⟨va, vc, vq⟩) (by unfold maxLen; omega) (by omega) (by rw [World.size_alloc]; omega) ?_; intro A3 c3 w3 hown3 hg3 hb3)
        | fail)
      have hB3 := (since_alloc hBz (.cells #[.int .i64 va, .int .i64 vc, .int .i64 vq] 48)).trans hb3
      have hln : M.length - (j + 1) + 1 = M.length - j := by omega
      rw [hln] at hown3
      go_roundw
      case rel =>
        refine ⟨j, A3, c3, by omega, by go_num, by rw [← hln], ?_, hB3⟩
        rw [HRV.out, rc_append]
        simpa [rc, Fw.cells] using hown3
      case measure => simp [intOf]

theorem moved_facts {L PL : List Fw} {fa fc ta tc m : Int} (h : payR L [⟨fa, fc, -m⟩, ⟨ta, tc, m⟩] = (0, PL)) : totF PL = totF L ∧ isF PL = true ∧ ∀ oa oc, ¬ (oa = fa ∧ oc = fc) → ¬ (oa = ta ∧ oc = tc) → getF PL oa oc = getF L oa oc := by
  unfold payR at h
  split at h
  · cases h
  · rename_i hi
    split at h
    · cases h
    · injection h with _ h
      subst h
      have hi' : isF L = true := by simpa using hi
      refine ⟨?_, purseOf_is _, fun oa oc h1 h2 => ?_⟩
      · rw [totF_purseOf]
        unfold totF
        simp; omega
      · rw [getF_purse (purseOf_sorted _), sumU_purseOf, sumU_append, getF_purse (isF_sorted hi'), sumU_cons, sumU_cons, if_neg, if_neg]
        · simp [sumU]
        · exact fun h => h2 ⟨((unF_iff _ _ _).1 h).1.symm, ((unF_iff _ _ _).1 h).2.symm⟩
        · exact fun h => h1 ⟨((unF_iff _ _ _).1 h).1.symm, ((unF_iff _ _ _).1 h).2.symm⟩
theorem moveR_pay {L : List Fw} {fa fc ta tc m : Int} (h : In64 (-m)) : moveR L fa fc ta tc m = payR L [⟨fa, fc, -m⟩, ⟨ta, tc, m⟩] := by
  unfold moveR
  split
  · rename_i hi; rw [payR, if_pos hi]
  · first | rfl | rw [if_pos h]

set_option maxHeartbeats 16000000 in
set_option maxRecDepth 100000 in
theorem pmv_min_no (a0 : Option Addr) (n0 c0 : Nat) (L : List Fw) (fa fc ta tc oa oc m : Int) (w : World) (hL20 : L.length ≤ 20) (hLq : ∀ x ∈ L, Fw.in_ x) (hsL : Sl w a0 (rc Fw.cells L)) (hf : In64 fa ∧ In64 fc ∧ In64 ta ∧ In64 tc ∧ In64 m)
    (HF1 : Hid (∀ V, Below w.heap.size w V → Calls Try.prog 14 #[.slice a0 n0 c0] V fun e w' => e = .returned (.slice a0 L.length c0) ∧ Below V.heap.size V w')) (hm : m = -9223372036854775808) (his : isF L = false) :
    Calls Try.prog 4 #[.slice a0 n0 c0, .agg #[.int .i64 fa, .int .i64 fc], .agg #[.int .i64 ta, .int .i64 tc], .agg #[.int .i64 oa, .int .i64 oc], .int .i64 m] w fun e w' => e = .returned (.bool true) ∧ Below w.heap.size w w' := by
  have hB := since_alloc (since_alloc (since_alloc (Below.refl _ w) (.cells #[.int .i64 fa, .int .i64 fc] 24)) (.cells #[.int .i64 ta, .int .i64 tc] 24)) (.cells #[.int .i64 oa, .int .i64 oc] 24)
  have HF1 := Lib.hid (HF1.out _ hB)
  have hK1 := ((Bk.new w #[.int .i64 fa, .int .i64 fc] 24).alloc (.cells #[.int .i64 ta, .int .i64 tc] 24)).alloc (.cells #[.int .i64 oa, .int .i64 oc] 24)
  have hK2 := (Bk.new (w.alloc (.cells #[.int .i64 fa, .int .i64 fc] 24)) #[.int .i64 ta, .int .i64 tc] 24).alloc (.cells #[.int .i64 oa, .int .i64 oc] 24)
  have hK3 := Bk.new ((w.alloc (.cells #[.int .i64 fa, .int .i64 fc] 24)).alloc (.cells #[.int .i64 ta, .int .i64 tc] 24)) #[.int .i64 oa, .int .i64 oc] 24
  rw [World.size_alloc] at hK2
  rw [World.size_alloc, World.size_alloc] at hK3
  have hsL := ((hsL.alloc (.cells #[.int .i64 fa, .int .i64 fc] 24)).alloc (.cells #[.int .i64 ta, .int .i64 tc] 24)).alloc (.cells #[.int .i64 oa, .int .i64 oc] 24)
  have HM := Lib.hid (fun V h => pmove_any a0 c0 L fa fc ta tc m V (by omega) hLq hf h)
  have HLV := Lib.hid (fun V => lives17_any V)
  have e : moveR L fa fc ta tc m = (3, []) := by
    unfold moveR
    rw [if_pos his]
  rw [e] at HM
  have HRI := Lib.hid (fun V h => rpis_any a0 c0 L V (by omega) h)
  rw [his] at HRI
  unfold PRes at HM
  simp only [List.length_nil] at HM
  have hmb : (m == -9223372036854775808) = true := by simpa using hm
  clear e hm his hLq hf hL20
  go_enter Try.func4, Try.ntmps4
  go_upto_region 1 with fail
  generalize hWW : ((w.alloc (.cells #[.int .i64 fa, .int .i64 fc] 24)).alloc (.cells #[.int .i64 ta, .int .i64 tc] 24)).alloc (.cells #[.int .i64 oa, .int .i64 oc] 24) = W at *
  clear hWW
  obtain ⟨hK1_l, hK1_c⟩ := id hK1
  have hK1_0 := hK1_c 0
  have hK1_1 := hK1_c 1
  simp at hK1_0 hK1_1
  clear hK1_c
  obtain ⟨hK2_l, hK2_c⟩ := id hK2
  have hK2_0 := hK2_c 0
  have hK2_1 := hK2_c 1
  simp at hK2_0 hK2_1
  clear hK2_c
  obtain ⟨hK3_l, hK3_c⟩ := id hK3
  have hK3_0 := hK3_c 0
  have hK3_1 := hK3_c 1
  simp at hK3_0 hK3_1
  clear hK3_c
  go_wp2_with fail
  refine HF1.out.mono ?_
  rintro e z1 ⟨rfl, hb⟩
  have hB := since_step hB hb
  have hK1 := hK1.below hb
  have hK2 := hK2.below hb
  have hK3 := hK3.below hb
  have hsL := hsL.below hb
  clear hb HF1
  clear hK1_l hK1_0 hK1_1 hK2_l hK2_0 hK2_1 hK3_l hK3_0 hK3_1
  obtain ⟨hK1_l, hK1_c⟩ := id hK1
  have hK1_0 := hK1_c 0
  have hK1_1 := hK1_c 1
  simp at hK1_0 hK1_1
  clear hK1_c
  obtain ⟨hK2_l, hK2_c⟩ := id hK2
  have hK2_0 := hK2_c 0
  have hK2_1 := hK2_c 1
  simp at hK2_0 hK2_1
  clear hK2_c
  obtain ⟨hK3_l, hK3_c⟩ := id hK3
  have hK3_0 := hK3_c 0
  have hK3_1 := hK3_c 1
  simp at hK3_0 hK3_1
  clear hK3_c
  go_wp2_with fail
  refine (HM.out _ hsL).mono ?_
  rintro e z2 ⟨⟨AM, cM, rfl, _⟩, hb⟩
  have hB := since_step hB hb
  have hK1 := hK1.below hb
  have hK2 := hK2.below hb
  have hK3 := hK3.below hb
  have hsL := hsL.below hb
  clear hb
  clear hK1_l hK1_0 hK1_1 hK2_l hK2_0 hK2_1 hK3_l hK3_0 hK3_1
  clear hK1 hK2 hK3
  go_wp2_with fail
  refine (HRI.out _ hsL).mono ?_
  rintro e z3 ⟨rfl, hb⟩
  have hB := since_step hB hb
  have hsL := hsL.below hb
  clear hb
  clear hsL
  go_wp2_with fail
  refine (HLV.out _).mono ?_
  rintro e z4 ⟨rfl, hb⟩
  have hB := since_step hB hb
  clear hb
  go_wp2_with fail
  go_ret
  exact ⟨rfl, hB⟩

set_option maxHeartbeats 16000000 in
set_option maxRecDepth 100000 in
theorem pmv_min_yes (a0 : Option Addr) (n0 c0 : Nat) (L : List Fw) (fa fc ta tc oa oc m : Int) (w : World) (hL20 : L.length ≤ 20) (hLq : ∀ x ∈ L, Fw.in_ x) (hsL : Sl w a0 (rc Fw.cells L)) (hf : In64 fa ∧ In64 fc ∧ In64 ta ∧ In64 tc ∧ In64 m)
    (HF1 : Hid (∀ V, Below w.heap.size w V → Calls Try.prog 14 #[.slice a0 n0 c0] V fun e w' => e = .returned (.slice a0 L.length c0) ∧ Below V.heap.size V w')) (hm : m = -9223372036854775808) (his : isF L = true) :
    Calls Try.prog 4 #[.slice a0 n0 c0, .agg #[.int .i64 fa, .int .i64 fc], .agg #[.int .i64 ta, .int .i64 tc], .agg #[.int .i64 oa, .int .i64 oc], .int .i64 m] w fun e w' => e = .returned (.bool true) ∧ Below w.heap.size w w' := by
  have hB := since_alloc (since_alloc (since_alloc (Below.refl _ w) (.cells #[.int .i64 fa, .int .i64 fc] 24)) (.cells #[.int .i64 ta, .int .i64 tc] 24)) (.cells #[.int .i64 oa, .int .i64 oc] 24)
  have HF1 := Lib.hid (HF1.out _ hB)
  have hK1 := ((Bk.new w #[.int .i64 fa, .int .i64 fc] 24).alloc (.cells #[.int .i64 ta, .int .i64 tc] 24)).alloc (.cells #[.int .i64 oa, .int .i64 oc] 24)
  have hK2 := (Bk.new (w.alloc (.cells #[.int .i64 fa, .int .i64 fc] 24)) #[.int .i64 ta, .int .i64 tc] 24).alloc (.cells #[.int .i64 oa, .int .i64 oc] 24)
  have hK3 := Bk.new ((w.alloc (.cells #[.int .i64 fa, .int .i64 fc] 24)).alloc (.cells #[.int .i64 ta, .int .i64 tc] 24)) #[.int .i64 oa, .int .i64 oc] 24
  rw [World.size_alloc] at hK2
  rw [World.size_alloc, World.size_alloc] at hK3
  have hsL := ((hsL.alloc (.cells #[.int .i64 fa, .int .i64 fc] 24)).alloc (.cells #[.int .i64 ta, .int .i64 tc] 24)).alloc (.cells #[.int .i64 oa, .int .i64 oc] 24)
  have HM := Lib.hid (fun V h => pmove_any a0 c0 L fa fc ta tc m V (by omega) hLq hf h)
  have HLV := Lib.hid (fun V => lives17_any V)
  have e : moveR L fa fc ta tc m = (7, []) := by
    unfold moveR
    rw [if_neg (by rw [his]; decide), if_neg (by unfold In64; omega)]
  rw [e] at HM
  have HRI := Lib.hid (fun V h => rpis_any a0 c0 L V (by omega) h)
  rw [his] at HRI
  unfold PRes at HM
  simp only [List.length_nil] at HM
  have hmb : (m == -9223372036854775808) = true := by simpa using hm
  clear e hm his hLq hf hL20
  go_enter Try.func4, Try.ntmps4
  go_upto_region 1 with fail
  generalize hWW : ((w.alloc (.cells #[.int .i64 fa, .int .i64 fc] 24)).alloc (.cells #[.int .i64 ta, .int .i64 tc] 24)).alloc (.cells #[.int .i64 oa, .int .i64 oc] 24) = W at *
  clear hWW
  obtain ⟨hK1_l, hK1_c⟩ := id hK1
  have hK1_0 := hK1_c 0
  have hK1_1 := hK1_c 1
  simp at hK1_0 hK1_1
  clear hK1_c
  obtain ⟨hK2_l, hK2_c⟩ := id hK2
  have hK2_0 := hK2_c 0
  have hK2_1 := hK2_c 1
  simp at hK2_0 hK2_1
  clear hK2_c
  obtain ⟨hK3_l, hK3_c⟩ := id hK3
  have hK3_0 := hK3_c 0
  have hK3_1 := hK3_c 1
  simp at hK3_0 hK3_1
  clear hK3_c
  go_wp2_with fail
  refine HF1.out.mono ?_
  rintro e z1 ⟨rfl, hb⟩
  have hB := since_step hB hb
  have hK1 := hK1.below hb
  have hK2 := hK2.below hb
  have hK3 := hK3.below hb
  have hsL := hsL.below hb
  clear hb HF1
  clear hK1_l hK1_0 hK1_1 hK2_l hK2_0 hK2_1 hK3_l hK3_0 hK3_1
  obtain ⟨hK1_l, hK1_c⟩ := id hK1
  have hK1_0 := hK1_c 0
  have hK1_1 := hK1_c 1
  simp at hK1_0 hK1_1
  clear hK1_c
  obtain ⟨hK2_l, hK2_c⟩ := id hK2
  have hK2_0 := hK2_c 0
  have hK2_1 := hK2_c 1
  simp at hK2_0 hK2_1
  clear hK2_c
  obtain ⟨hK3_l, hK3_c⟩ := id hK3
  have hK3_0 := hK3_c 0
  have hK3_1 := hK3_c 1
  simp at hK3_0 hK3_1
  clear hK3_c
  go_wp2_with fail
  refine (HM.out _ hsL).mono ?_
  rintro e z2 ⟨⟨AM, cM, rfl, _⟩, hb⟩
  have hB := since_step hB hb
  have hK1 := hK1.below hb
  have hK2 := hK2.below hb
  have hK3 := hK3.below hb
  have hsL := hsL.below hb
  clear hb
  clear hK1_l hK1_0 hK1_1 hK2_l hK2_0 hK2_1 hK3_l hK3_0 hK3_1
  clear hK1 hK2 hK3
  go_wp2_with fail
  refine (HRI.out _ hsL).mono ?_
  rintro e z3 ⟨rfl, hb⟩
  have hB := since_step hB hb
  have hsL := hsL.below hb
  clear hb
  clear hsL
  go_wp2_with fail
  refine (HLV.out _).mono ?_
  rintro e z4 ⟨rfl, hb⟩
  have hB := since_step hB hb
  clear hb
  go_wp2_with fail
  go_ret
  exact ⟨rfl, hB⟩

set_option maxHeartbeats 16000000 in
set_option maxRecDepth 100000 in
theorem pmv_err (a0 : Option Addr) (n0 c0 : Nat) (L : List Fw) (fa fc ta tc oa oc m : Int) (w : World) (hL20 : L.length ≤ 20) (hLq : ∀ x ∈ L, Fw.in_ x) (hsL : Sl w a0 (rc Fw.cells L)) (hf : In64 fa ∧ In64 fc ∧ In64 ta ∧ In64 tc ∧ In64 m)
    (HF1 : Hid (∀ V, Below w.heap.size w V → Calls Try.prog 14 #[.slice a0 n0 c0] V fun e w' => e = .returned (.slice a0 L.length c0) ∧ Below V.heap.size V w')) (hm : m ≠ -9223372036854775808) (pn : Int) (PL : List Fw) (hPL : payR L [⟨fa, fc, -m⟩, ⟨ta, tc, m⟩] = (pn, PL)) (h0 : pn ≠ 0) :
    Calls Try.prog 4 #[.slice a0 n0 c0, .agg #[.int .i64 fa, .int .i64 fc], .agg #[.int .i64 ta, .int .i64 tc], .agg #[.int .i64 oa, .int .i64 oc], .int .i64 m] w fun e w' => e = .returned (.bool true) ∧ Below w.heap.size w w' := by
  have hB := since_alloc (since_alloc (since_alloc (Below.refl _ w) (.cells #[.int .i64 fa, .int .i64 fc] 24)) (.cells #[.int .i64 ta, .int .i64 tc] 24)) (.cells #[.int .i64 oa, .int .i64 oc] 24)
  have HF1 := Lib.hid (HF1.out _ hB)
  have hK1 := ((Bk.new w #[.int .i64 fa, .int .i64 fc] 24).alloc (.cells #[.int .i64 ta, .int .i64 tc] 24)).alloc (.cells #[.int .i64 oa, .int .i64 oc] 24)
  have hK2 := (Bk.new (w.alloc (.cells #[.int .i64 fa, .int .i64 fc] 24)) #[.int .i64 ta, .int .i64 tc] 24).alloc (.cells #[.int .i64 oa, .int .i64 oc] 24)
  have hK3 := Bk.new ((w.alloc (.cells #[.int .i64 fa, .int .i64 fc] 24)).alloc (.cells #[.int .i64 ta, .int .i64 tc] 24)) #[.int .i64 oa, .int .i64 oc] 24
  rw [World.size_alloc] at hK2
  rw [World.size_alloc, World.size_alloc] at hK3
  have hsL := ((hsL.alloc (.cells #[.int .i64 fa, .int .i64 fc] 24)).alloc (.cells #[.int .i64 ta, .int .i64 tc] 24)).alloc (.cells #[.int .i64 oa, .int .i64 oc] 24)
  have HM := Lib.hid (fun V h => pmove_any a0 c0 L fa fc ta tc m V (by omega) hLq hf h)
  have HLV := Lib.hid (fun V => lives17_any V)
  have hm6 : In64 (-m) := by obtain ⟨_, _, _, _, h⟩ := hf; unfold In64 at *; omega
  rw [moveR_pay hm6] at HM
  have hall : ∀ x ∈ L ++ [(⟨fa, fc, -m⟩ : Fw), ⟨ta, tc, m⟩], Fw.in_ x := fun x hx => by
    rcases List.mem_append.1 hx with hx | hx
    · exact hLq x hx
    · rcases List.mem_cons.1 hx with rfl | hx
      · exact ⟨hf.1, hf.2.1, hm6⟩
      · obtain rfl : x = ⟨ta, tc, m⟩ := by simpa using hx
        exact ⟨hf.2.2.1, hf.2.2.2.1, hf.2.2.2.2⟩
  have HRP := Lib.hid (fun A V h1 h2 => rppay_any a0 A c0 2 L [⟨fa, fc, -m⟩, ⟨ta, tc, m⟩] V (by omega) (by simp) hall h1 h2)
  have hpl := payR_len L [⟨fa, fc, -m⟩, ⟨ta, tc, m⟩]
  rw [hPL] at HM HRP hpl
  have hpl2 : PL.length ≤ 22 := by simpa using Nat.le_trans hpl (by simp; omega)
  have hpl3 : PL.length ≤ 1000000 := by omega
  have HSM := Lib.hid (fun A A2 c c2 V h1 h2 => rpsame_any_self A A2 c c2 PL V hpl3 h1 h2)
  unfold PRes at HM HRP
  simp only [List.length_cons, List.length_nil] at HM HRP
  have hpn : (pn != pn) = false := by simp
  have hmb : (m == -9223372036854775808) = false := by simpa using hm
  have hwn : IntKind.i64.wrap (-m) = -m := IntWalk.i64_in _ hm6
  have hp0 : (pn != 0) = true := by simpa using h0
  clear hm hm6 hall hpl hpl3 hPL hLq hf hL20 h0
  go_enter Try.func4, Try.ntmps4
  go_upto_region 1 with fail
  generalize hWW : ((w.alloc (.cells #[.int .i64 fa, .int .i64 fc] 24)).alloc (.cells #[.int .i64 ta, .int .i64 tc] 24)).alloc (.cells #[.int .i64 oa, .int .i64 oc] 24) = W at *
  clear hWW
  obtain ⟨hK1_l, hK1_c⟩ := id hK1
  have hK1_0 := hK1_c 0
  have hK1_1 := hK1_c 1
  simp at hK1_0 hK1_1
  clear hK1_c
  obtain ⟨hK2_l, hK2_c⟩ := id hK2
  have hK2_0 := hK2_c 0
  have hK2_1 := hK2_c 1
  simp at hK2_0 hK2_1
  clear hK2_c
  obtain ⟨hK3_l, hK3_c⟩ := id hK3
  have hK3_0 := hK3_c 0
  have hK3_1 := hK3_c 1
  simp at hK3_0 hK3_1
  clear hK3_c
  go_wp2_with fail
  refine HF1.out.mono ?_
  rintro e z1 ⟨rfl, hb⟩
  have hB := since_step hB hb
  have hK1 := hK1.below hb
  have hK2 := hK2.below hb
  have hK3 := hK3.below hb
  have hsL := hsL.below hb
  clear hb HF1
  clear hK1_l hK1_0 hK1_1 hK2_l hK2_0 hK2_1 hK3_l hK3_0 hK3_1
  obtain ⟨hK1_l, hK1_c⟩ := id hK1
  have hK1_0 := hK1_c 0
  have hK1_1 := hK1_c 1
  simp at hK1_0 hK1_1
  clear hK1_c
  obtain ⟨hK2_l, hK2_c⟩ := id hK2
  have hK2_0 := hK2_c 0
  have hK2_1 := hK2_c 1
  simp at hK2_0 hK2_1
  clear hK2_c
  obtain ⟨hK3_l, hK3_c⟩ := id hK3
  have hK3_0 := hK3_c 0
  have hK3_1 := hK3_c 1
  simp at hK3_0 hK3_1
  clear hK3_c
  go_wp2_with fail
  refine (HM.out _ hsL).mono ?_
  rintro e z2 ⟨⟨A1x, c1x, rfl, h1x⟩, hb⟩
  have hB := since_step hB hb
  have hK1 := hK1.below hb
  have hK2 := hK2.below hb
  have hK3 := hK3.below hb
  have hsL := hsL.below hb
  clear hb
  clear hK1_l hK1_0 hK1_1 hK2_l hK2_0 hK2_1 hK3_l hK3_0 hK3_1
  obtain ⟨hK1_l, hK1_c⟩ := id hK1
  have hK1_0 := hK1_c 0
  have hK1_1 := hK1_c 1
  simp at hK1_0 hK1_1
  clear hK1_c
  obtain ⟨hK2_l, hK2_c⟩ := id hK2
  have hK2_0 := hK2_c 0
  have hK2_1 := hK2_c 1
  simp at hK2_0 hK2_1
  clear hK2_c
  obtain ⟨hK3_l, hK3_c⟩ := id hK3
  have hK3_0 := hK3_c 0
  have hK3_1 := hK3_c 1
  simp at hK3_0 hK3_1
  clear hK3_c
  have hnw := Sl.new_ z2 (rc Fw.cells [⟨fa, fc, -m⟩, ⟨ta, tc, m⟩]) 48
  have hA := (Below.refl z2.heap.size z2).alloc (Nat.le_refl _) (.cells #[.int .i64 fa, .int .i64 fc, .int .i64 (-m), .int .i64 ta, .int .i64 tc, .int .i64 m] 48)
  go_wp2_with fail
  have hB := since_step hB hA
  have hK1 := hK1.below hA
  have hK2 := hK2.below hA
  have hK3 := hK3.below hA
  have hsL := hsL.below hA
  have h1x := h1x.below hA
  refine (HRP.out _ _ hsL hnw).mono ?_
  rintro e z3 ⟨⟨A2x, c2x, rfl, h2x⟩, hb⟩
  have hB := since_step hB hb
  have hK1 := hK1.below hb
  have hK2 := hK2.below hb
  have hK3 := hK3.below hb
  have hsL := hsL.below hb
  have h1x := h1x.below hb
  clear hb hA hnw
  clear hK1_l hK1_0 hK1_1 hK2_l hK2_0 hK2_1 hK3_l hK3_0 hK3_1
  clear hK1 hK2 hK3 hsL
  go_wp2_with fail
  refine (HSM.out _ _ _ _ _ h1x h2x).mono ?_
  rintro e z4 ⟨rfl, hb⟩
  have hB := since_step hB hb
  have h1x := h1x.below hb
  have h2x := h2x.below hb
  clear hb
  clear h2x
  clear h1x
  go_wp2_with fail
  refine (HLV.out _).mono ?_
  rintro e z5 ⟨rfl, hb⟩
  have hB := since_step hB hb
  clear hb
  go_wp2_with fail
  go_ret
  exact ⟨rfl, hB⟩

set_option maxHeartbeats 16000000 in
set_option maxRecDepth 100000 in
theorem pmv_A (a0 : Option Addr) (n0 c0 : Nat) (L : List Fw) (fa fc ta tc oa oc m : Int) (w : World) (hL20 : L.length ≤ 20) (hLq : ∀ x ∈ L, Fw.in_ x) (hsL : Sl w a0 (rc Fw.cells L)) (hf : In64 fa ∧ In64 fc ∧ In64 ta ∧ In64 tc ∧ In64 m)
    (HF1 : Hid (∀ V, Below w.heap.size w V → Calls Try.prog 14 #[.slice a0 n0 c0] V fun e w' => e = .returned (.slice a0 L.length c0) ∧ Below V.heap.size V w')) (hm : m ≠ -9223372036854775808) (pn : Int) (PL : List Fw) (hPL : payR L [⟨fa, fc, -m⟩, ⟨ta, tc, m⟩] = (pn, PL)) (h0 : pn = 0) (hf1 : oa = fa) (hf2 : oc = fc) :
    Calls Try.prog 4 #[.slice a0 n0 c0, .agg #[.int .i64 fa, .int .i64 fc], .agg #[.int .i64 ta, .int .i64 tc], .agg #[.int .i64 oa, .int .i64 oc], .int .i64 m] w fun e w' => e = .returned (.bool true) ∧ Below w.heap.size w w' := by
  have hB := since_alloc (since_alloc (since_alloc (Below.refl _ w) (.cells #[.int .i64 fa, .int .i64 fc] 24)) (.cells #[.int .i64 ta, .int .i64 tc] 24)) (.cells #[.int .i64 oa, .int .i64 oc] 24)
  have HF1 := Lib.hid (HF1.out _ hB)
  have hK1 := ((Bk.new w #[.int .i64 fa, .int .i64 fc] 24).alloc (.cells #[.int .i64 ta, .int .i64 tc] 24)).alloc (.cells #[.int .i64 oa, .int .i64 oc] 24)
  have hK2 := (Bk.new (w.alloc (.cells #[.int .i64 fa, .int .i64 fc] 24)) #[.int .i64 ta, .int .i64 tc] 24).alloc (.cells #[.int .i64 oa, .int .i64 oc] 24)
  have hK3 := Bk.new ((w.alloc (.cells #[.int .i64 fa, .int .i64 fc] 24)).alloc (.cells #[.int .i64 ta, .int .i64 tc] 24)) #[.int .i64 oa, .int .i64 oc] 24
  rw [World.size_alloc] at hK2
  rw [World.size_alloc, World.size_alloc] at hK3
  have hsL := ((hsL.alloc (.cells #[.int .i64 fa, .int .i64 fc] 24)).alloc (.cells #[.int .i64 ta, .int .i64 tc] 24)).alloc (.cells #[.int .i64 oa, .int .i64 oc] 24)
  have HM := Lib.hid (fun V h => pmove_any a0 c0 L fa fc ta tc m V (by omega) hLq hf h)
  have HLV := Lib.hid (fun V => lives17_any V)
  have hm6 : In64 (-m) := by obtain ⟨_, _, _, _, h⟩ := hf; unfold In64 at *; omega
  rw [moveR_pay hm6] at HM
  have hall : ∀ x ∈ L ++ [(⟨fa, fc, -m⟩ : Fw), ⟨ta, tc, m⟩], Fw.in_ x := fun x hx => by
    rcases List.mem_append.1 hx with hx | hx
    · exact hLq x hx
    · rcases List.mem_cons.1 hx with rfl | hx
      · exact ⟨hf.1, hf.2.1, hm6⟩
      · obtain rfl : x = ⟨ta, tc, m⟩ := by simpa using hx
        exact ⟨hf.2.2.1, hf.2.2.2.1, hf.2.2.2.2⟩
  have HRP := Lib.hid (fun A V h1 h2 => rppay_any a0 A c0 2 L [⟨fa, fc, -m⟩, ⟨ta, tc, m⟩] V (by omega) (by simp) hall h1 h2)
  have hpl := payR_len L [⟨fa, fc, -m⟩, ⟨ta, tc, m⟩]
  rw [hPL] at HM HRP hpl
  have hpl2 : PL.length ≤ 22 := by simpa using Nat.le_trans hpl (by simp; omega)
  have hpl3 : PL.length ≤ 1000000 := by omega
  have HSM := Lib.hid (fun A A2 c c2 V h1 h2 => rpsame_any_self A A2 c c2 PL V hpl3 h1 h2)
  unfold PRes at HM HRP
  simp only [List.length_cons, List.length_nil] at HM HRP
  have hpn : (pn != pn) = false := by simp
  have hmb : (m == -9223372036854775808) = false := by simpa using hm
  have hwn : IntKind.i64.wrap (-m) = -m := IntWalk.i64_in _ hm6
  subst h0
  obtain ⟨q1, q2, q3⟩ := moved_facts hPL
  have hPLq : ∀ x ∈ PL, In64 x.amt := by
    intro x hx
    unfold payR at hPL
    split at hPL
    · cases hPL
    · split at hPL
      · cases hPL
      · rename_i hfit
        injection hPL with _ e
        subst e
        obtain ⟨⟨y, hy, e1, e2⟩, h2, _⟩ := (mem_purseOf _ _).1 hx
        have hfit : fitsU (L ++ [(⟨fa, fc, -m⟩ : Fw), ⟨ta, tc, m⟩]) = true := by simpa using hfit
        unfold fitsU at hfit
        rw [List.all_eq_true] at hfit
        rw [h2]
        exact (fitI_iff _).1 (hfit ⟨x.ac, x.cl⟩ ((mem_unitsU _ _).2 ⟨y, hy, e1, e2⟩))
  have hLA : ∀ y ∈ L, In64 y.amt := fun y hy => (hLq y hy).2.2
  have HT1 := Lib.hid (fun A c V h => ptotal_any A c PL V (by omega) hPLq h)
  have HT2 := Lib.hid (fun V h => ptotal_any a0 c0 L V (by omega) hLA h)
  rw [q1] at HT1
  have HIS := Lib.hid (fun A c V h => pis_any A c PL V hpl3 h)
  rw [q2] at HIS
  obtain ⟨th, hth⟩ : ∃ n, hiN (totF L) = n := ⟨_, rfl⟩
  obtain ⟨tl, htl⟩ : ∃ n, loN (totF L) = n := ⟨_, rfl⟩
  rw [hth, htl] at HT1 HT2
  have hq1 : (th == th) = true := by simp
  have hq2 : (tl == tl) = true := by simp
  clear q1 q2 q3 hPLq hLA hth htl
  have bf1 : (oa != fa) = false := by rw [hf1]; simp
  have bf2 : (oc != fc) = false := by rw [hf2]; simp
  have cf1 : (oa == fa) = true := by rw [hf1]; simp
  have cf2 : (oc == fc) = true := by rw [hf2]; simp
  clear hf1 hf2
  clear hm hm6 hall hpl hpl3 hPL hLq hf hL20
  go_enter Try.func4, Try.ntmps4
  go_upto_region 1 with fail
  generalize hWW : ((w.alloc (.cells #[.int .i64 fa, .int .i64 fc] 24)).alloc (.cells #[.int .i64 ta, .int .i64 tc] 24)).alloc (.cells #[.int .i64 oa, .int .i64 oc] 24) = W at *
  clear hWW
  obtain ⟨hK1_l, hK1_c⟩ := id hK1
  have hK1_0 := hK1_c 0
  have hK1_1 := hK1_c 1
  simp at hK1_0 hK1_1
  clear hK1_c
  obtain ⟨hK2_l, hK2_c⟩ := id hK2
  have hK2_0 := hK2_c 0
  have hK2_1 := hK2_c 1
  simp at hK2_0 hK2_1
  clear hK2_c
  obtain ⟨hK3_l, hK3_c⟩ := id hK3
  have hK3_0 := hK3_c 0
  have hK3_1 := hK3_c 1
  simp at hK3_0 hK3_1
  clear hK3_c
  go_wp2_with fail
  refine HF1.out.mono ?_
  rintro e z1 ⟨rfl, hb⟩
  have hB := since_step hB hb
  have hK1 := hK1.below hb
  have hK2 := hK2.below hb
  have hK3 := hK3.below hb
  have hsL := hsL.below hb
  clear hb HF1
  clear hK1_l hK1_0 hK1_1 hK2_l hK2_0 hK2_1 hK3_l hK3_0 hK3_1
  obtain ⟨hK1_l, hK1_c⟩ := id hK1
  have hK1_0 := hK1_c 0
  have hK1_1 := hK1_c 1
  simp at hK1_0 hK1_1
  clear hK1_c
  obtain ⟨hK2_l, hK2_c⟩ := id hK2
  have hK2_0 := hK2_c 0
  have hK2_1 := hK2_c 1
  simp at hK2_0 hK2_1
  clear hK2_c
  obtain ⟨hK3_l, hK3_c⟩ := id hK3
  have hK3_0 := hK3_c 0
  have hK3_1 := hK3_c 1
  simp at hK3_0 hK3_1
  clear hK3_c
  go_wp2_with fail
  refine (HM.out _ hsL).mono ?_
  rintro e z2 ⟨⟨A1x, c1x, rfl, h1x⟩, hb⟩
  have hB := since_step hB hb
  have hK1 := hK1.below hb
  have hK2 := hK2.below hb
  have hK3 := hK3.below hb
  have hsL := hsL.below hb
  clear hb
  clear hK1_l hK1_0 hK1_1 hK2_l hK2_0 hK2_1 hK3_l hK3_0 hK3_1
  obtain ⟨hK1_l, hK1_c⟩ := id hK1
  have hK1_0 := hK1_c 0
  have hK1_1 := hK1_c 1
  simp at hK1_0 hK1_1
  clear hK1_c
  obtain ⟨hK2_l, hK2_c⟩ := id hK2
  have hK2_0 := hK2_c 0
  have hK2_1 := hK2_c 1
  simp at hK2_0 hK2_1
  clear hK2_c
  obtain ⟨hK3_l, hK3_c⟩ := id hK3
  have hK3_0 := hK3_c 0
  have hK3_1 := hK3_c 1
  simp at hK3_0 hK3_1
  clear hK3_c
  have hnw := Sl.new_ z2 (rc Fw.cells [⟨fa, fc, -m⟩, ⟨ta, tc, m⟩]) 48
  have hA := (Below.refl z2.heap.size z2).alloc (Nat.le_refl _) (.cells #[.int .i64 fa, .int .i64 fc, .int .i64 (-m), .int .i64 ta, .int .i64 tc, .int .i64 m] 48)
  go_wp2_with fail
  have hB := since_step hB hA
  have hK1 := hK1.below hA
  have hK2 := hK2.below hA
  have hK3 := hK3.below hA
  have hsL := hsL.below hA
  have h1x := h1x.below hA
  refine (HRP.out _ _ hsL hnw).mono ?_
  rintro e z3 ⟨⟨A2x, c2x, rfl, h2x⟩, hb⟩
  have hB := since_step hB hb
  have hK1 := hK1.below hb
  have hK2 := hK2.below hb
  have hK3 := hK3.below hb
  have hsL := hsL.below hb
  have h1x := h1x.below hb
  clear hb hA hnw
  clear hK1_l hK1_0 hK1_1 hK2_l hK2_0 hK2_1 hK3_l hK3_0 hK3_1
  obtain ⟨hK1_l, hK1_c⟩ := id hK1
  have hK1_0 := hK1_c 0
  have hK1_1 := hK1_c 1
  simp at hK1_0 hK1_1
  clear hK1_c
  obtain ⟨hK2_l, hK2_c⟩ := id hK2
  have hK2_0 := hK2_c 0
  have hK2_1 := hK2_c 1
  simp at hK2_0 hK2_1
  clear hK2_c
  obtain ⟨hK3_l, hK3_c⟩ := id hK3
  have hK3_0 := hK3_c 0
  have hK3_1 := hK3_c 1
  simp at hK3_0 hK3_1
  clear hK3_c
  go_wp2_with fail
  refine (HSM.out _ _ _ _ _ h1x h2x).mono ?_
  rintro e z4 ⟨rfl, hb⟩
  have hB := since_step hB hb
  have hK1 := hK1.below hb
  have hK2 := hK2.below hb
  have hK3 := hK3.below hb
  have hsL := hsL.below hb
  have h1x := h1x.below hb
  have h2x := h2x.below hb
  clear hb
  clear hK1_l hK1_0 hK1_1 hK2_l hK2_0 hK2_1 hK3_l hK3_0 hK3_1
  clear h2x
  obtain ⟨hK1_l, hK1_c⟩ := id hK1
  have hK1_0 := hK1_c 0
  have hK1_1 := hK1_c 1
  simp at hK1_0 hK1_1
  clear hK1_c
  obtain ⟨hK2_l, hK2_c⟩ := id hK2
  have hK2_0 := hK2_c 0
  have hK2_1 := hK2_c 1
  simp at hK2_0 hK2_1
  clear hK2_c
  obtain ⟨hK3_l, hK3_c⟩ := id hK3
  have hK3_0 := hK3_c 0
  have hK3_1 := hK3_c 1
  simp at hK3_0 hK3_1
  clear hK3_c
  go_upto_region 13 with fail
  skip
  clear hK1_l hK1_0 hK1_1 hK2_l hK2_0 hK2_1 hK3_l hK3_0 hK3_1
  have HK1 : Hid (∀ V, Below z4.heap.size z4 V → Bk V w.heap.size #[.int .i64 fa, .int .i64 fc]) := Lib.hid fun V h => hK1.below h
  have HK2 : Hid (∀ V, Below z4.heap.size z4 V → Bk V (w.heap.size + 1) #[.int .i64 ta, .int .i64 tc]) := Lib.hid fun V h => hK2.below h
  have HK3 : Hid (∀ V, Below z4.heap.size z4 V → Bk V (w.heap.size + 1 + 1) #[.int .i64 oa, .int .i64 oc]) := Lib.hid fun V h => hK3.below h
  have HSL : Hid (∀ V, Below z4.heap.size z4 V → Sl V a0 (rc Fw.cells L)) := Lib.hid fun V h => hsL.below h
  have HPX : Hid (∀ V, Below z4.heap.size z4 V → Sl V A1x (rc Fw.cells PL)) := Lib.hid fun V h => h1x.below h
  have hszU := hB.size
  clear hK1 hK2 hK3 hsL h1x
  go_wp2_with fail
  refine wp_region_held_drew (S := (fun V => Below z4.heap.size z4 V)) (by kernel_rfl) (by exact (Below.refl _ _).drew) (fun hHeld => ?_)
  refine wpAnyH_take (i := 0) (oi := { dst := some 67, op := _, type := _, pos := _, after := _, guard := _ }) (v := ?_) rfl (by kernel_rfl) (by kernel_rfl) (by kernel_rfl) (fun _ _ _ h => h) (Or.inl ⟨by rfl, ?_⟩) hHeld ?_
  rotate_left
  · (intro w hSw; obtain ⟨l1, k1⟩ := HK1.out _ hSw; have p0 := k1 0; have p1 := k1 1; obtain ⟨l2, k2⟩ := HK2.out _ hSw; have p2 := k2 0; have p3 := k2 1; obtain ⟨l3, k3⟩ := HK3.out _ hSw; have p4 := k3 0; have p5 := k3 1; simp at p0 p1 p2 p3 p4 p5; clear k1 k2 k3; go_simp <;> with_reducible rfl)
  try simp only [Act.put, List.setIfInBounds_toArray, List.set_cons_zero, List.set_cons_succ]
  refine wpAnyH_take (i := 1) (oi := { dst := some 68, op := _, type := _, pos := _, after := _, guard := _ }) (v := ?_) rfl (by kernel_rfl) (by kernel_rfl) (by kernel_rfl) (fun _ _ _ h => h) (Or.inl ⟨by rfl, ?_⟩) hHeld ?_
  rotate_left
  · (intro w hSw; obtain ⟨l1, k1⟩ := HK1.out _ hSw; have p0 := k1 0; have p1 := k1 1; obtain ⟨l2, k2⟩ := HK2.out _ hSw; have p2 := k2 0; have p3 := k2 1; obtain ⟨l3, k3⟩ := HK3.out _ hSw; have p4 := k3 0; have p5 := k3 1; simp at p0 p1 p2 p3 p4 p5; clear k1 k2 k3; go_simp <;> with_reducible rfl)
  try simp only [Act.put, List.setIfInBounds_toArray, List.set_cons_zero, List.set_cons_succ]
  refine wpAnyH_take (i := 2) (oi := { dst := some 69, op := _, type := _, pos := _, after := _, guard := _ }) (v := ?_) rfl (by kernel_rfl) (by kernel_rfl) (by kernel_rfl) (fun _ _ _ h => h) (Or.inl ⟨by rfl, ?_⟩) hHeld ?_
  rotate_left
  · (intro w hSw; obtain ⟨l1, k1⟩ := HK1.out _ hSw; have p0 := k1 0; have p1 := k1 1; obtain ⟨l2, k2⟩ := HK2.out _ hSw; have p2 := k2 0; have p3 := k2 1; obtain ⟨l3, k3⟩ := HK3.out _ hSw; have p4 := k3 0; have p5 := k3 1; simp at p0 p1 p2 p3 p4 p5; clear k1 k2 k3; go_simp <;> with_reducible rfl)
  try simp only [Act.put, List.setIfInBounds_toArray, List.set_cons_zero, List.set_cons_succ]
  refine wpAnyH_take (i := 3) (oi := { dst := some 70, op := _, type := _, pos := _, after := _, guard := _ }) (v := ?_) rfl (by kernel_rfl) (by kernel_rfl) (by kernel_rfl) (fun _ _ _ h => h) (Or.inl ⟨by rfl, ?_⟩) hHeld ?_
  rotate_left
  · (intro w hSw; obtain ⟨l1, k1⟩ := HK1.out _ hSw; have p0 := k1 0; have p1 := k1 1; obtain ⟨l2, k2⟩ := HK2.out _ hSw; have p2 := k2 0; have p3 := k2 1; obtain ⟨l3, k3⟩ := HK3.out _ hSw; have p4 := k3 0; have p5 := k3 1; simp at p0 p1 p2 p3 p4 p5; clear k1 k2 k3; go_simp <;> with_reducible rfl)
  try simp only [Act.put, List.setIfInBounds_toArray, List.set_cons_zero, List.set_cons_succ]
  refine wpAnyH_take (i := 4) (oi := { dst := some 71, op := _, type := _, pos := _, after := _, guard := _ }) (v := undef) rfl (by kernel_rfl) (by kernel_rfl) (by kernel_rfl) (fun _ _ _ h => h) (Or.inr ⟨by rfl, rfl⟩) hHeld ?_
  try simp only [Act.put, List.setIfInBounds_toArray, List.set_cons_zero, List.set_cons_succ]
  refine wpAnyH_take (i := 5) (oi := { dst := some 72, op := _, type := _, pos := _, after := _, guard := _ }) (v := undef) rfl (by kernel_rfl) (by kernel_rfl) (by kernel_rfl) (fun _ _ _ h => h) (Or.inr ⟨by rfl, rfl⟩) hHeld ?_
  try simp only [Act.put, List.setIfInBounds_toArray, List.set_cons_zero, List.set_cons_succ]
  refine wpAnyH_take (i := 6) (oi := { dst := some 73, op := _, type := _, pos := _, after := _, guard := _ }) (v := undef) rfl (by kernel_rfl) (by kernel_rfl) (by kernel_rfl) (fun _ _ _ h => h) (Or.inr ⟨by rfl, rfl⟩) hHeld ?_
  try simp only [Act.put, List.setIfInBounds_toArray, List.set_cons_zero, List.set_cons_succ]
  refine wpAnyH_take (i := 7) (oi := { dst := some 74, op := _, type := _, pos := _, after := _, guard := _ }) (v := ?_) rfl (by kernel_rfl) (by kernel_rfl) (by kernel_rfl) (fun _ _ _ h => h) (Or.inl ⟨by rfl, ?_⟩) hHeld ?_
  rotate_left
  · (intro w hSw; obtain ⟨l1, k1⟩ := HK1.out _ hSw; have p0 := k1 0; have p1 := k1 1; obtain ⟨l2, k2⟩ := HK2.out _ hSw; have p2 := k2 0; have p3 := k2 1; obtain ⟨l3, k3⟩ := HK3.out _ hSw; have p4 := k3 0; have p5 := k3 1; simp at p0 p1 p2 p3 p4 p5; clear k1 k2 k3; go_simp <;> with_reducible rfl)
  try simp only [Act.put, List.setIfInBounds_toArray, List.set_cons_zero, List.set_cons_succ]
  refine wpAnyH_take (i := 8) (oi := { dst := some 75, op := _, type := _, pos := _, after := _, guard := _ }) (v := ?_) rfl (by kernel_rfl) (by kernel_rfl) (by kernel_rfl) (fun _ _ _ h => h) (Or.inl ⟨by rfl, ?_⟩) hHeld ?_
  rotate_left
  · (intro w hSw; obtain ⟨l1, k1⟩ := HK1.out _ hSw; have p0 := k1 0; have p1 := k1 1; obtain ⟨l2, k2⟩ := HK2.out _ hSw; have p2 := k2 0; have p3 := k2 1; obtain ⟨l3, k3⟩ := HK3.out _ hSw; have p4 := k3 0; have p5 := k3 1; simp at p0 p1 p2 p3 p4 p5; clear k1 k2 k3; go_simp <;> with_reducible rfl)
  try simp only [Act.put, List.setIfInBounds_toArray, List.set_cons_zero, List.set_cons_succ]
  refine wpAnyH_take (i := 9) (oi := { dst := some 76, op := _, type := _, pos := _, after := _, guard := _ }) (v := undef) rfl (by kernel_rfl) (by kernel_rfl) (by kernel_rfl) (fun _ _ _ h => h) (Or.inr ⟨by rfl, rfl⟩) hHeld ?_
  try simp only [Act.put, List.setIfInBounds_toArray, List.set_cons_zero, List.set_cons_succ]
  refine wpAnyH_take (i := 10) (oi := { dst := some 77, op := _, type := _, pos := _, after := _, guard := _ }) (v := undef) rfl (by kernel_rfl) (by kernel_rfl) (by kernel_rfl) (fun _ _ _ h => h) (Or.inr ⟨by rfl, rfl⟩) hHeld ?_
  try simp only [Act.put, List.setIfInBounds_toArray, List.set_cons_zero, List.set_cons_succ]
  refine wpAnyH_take (i := 11) (oi := { dst := some 78, op := _, type := _, pos := _, after := _, guard := _ }) (v := undef) rfl (by kernel_rfl) (by kernel_rfl) (by kernel_rfl) (fun _ _ _ h => h) (Or.inr ⟨by rfl, rfl⟩) hHeld ?_
  try simp only [Act.put, List.setIfInBounds_toArray, List.set_cons_zero, List.set_cons_succ]
  refine wpAnyH_take (i := 12) (oi := { dst := some 79, op := _, type := _, pos := _, after := _, guard := _ }) (v := undef) rfl (by kernel_rfl) (by kernel_rfl) (by kernel_rfl) (fun _ _ _ h => h) (Or.inr ⟨by rfl, rfl⟩) hHeld ?_
  try simp only [Act.put, List.setIfInBounds_toArray, List.set_cons_zero, List.set_cons_succ]
  refine wpAnyH_take (i := 13) (oi := { dst := some 80, op := _, type := _, pos := _, after := _, guard := _ }) (v := undef) rfl (by kernel_rfl) (by kernel_rfl) (by kernel_rfl) (fun _ _ _ h => h) (Or.inr ⟨by rfl, rfl⟩) hHeld ?_
  try simp only [Act.put, List.setIfInBounds_toArray, List.set_cons_zero, List.set_cons_succ]
  refine wpAnyH_take (i := 14) (oi := { dst := some 81, op := _, type := _, pos := _, after := _, guard := _ }) (v := undef) rfl (by kernel_rfl) (by kernel_rfl) (by kernel_rfl) (fun _ _ _ h => h) (Or.inr ⟨by rfl, rfl⟩) hHeld ?_
  try simp only [Act.put, List.setIfInBounds_toArray, List.set_cons_zero, List.set_cons_succ]
  refine wpAnyH_take (i := 15) (oi := { dst := some 82, op := _, type := _, pos := _, after := _, guard := _ }) (v := undef) rfl (by kernel_rfl) (by kernel_rfl) (by kernel_rfl) (fun _ _ _ h => h) (Or.inr ⟨by rfl, rfl⟩) hHeld ?_
  try simp only [Act.put, List.setIfInBounds_toArray, List.set_cons_zero, List.set_cons_succ]
  refine wpAnyH_take (i := 16) (oi := { dst := some 83, op := _, type := _, pos := _, after := _, guard := _ }) (v := ?_) rfl (by kernel_rfl) (by kernel_rfl) (by kernel_rfl) (fun _ _ _ h => h) (Or.inl ⟨by rfl, ?_⟩) hHeld ?_
  rotate_left
  · (intro w hSw; obtain ⟨l1, k1⟩ := HK1.out _ hSw; have p0 := k1 0; have p1 := k1 1; obtain ⟨l2, k2⟩ := HK2.out _ hSw; have p2 := k2 0; have p3 := k2 1; obtain ⟨l3, k3⟩ := HK3.out _ hSw; have p4 := k3 0; have p5 := k3 1; simp at p0 p1 p2 p3 p4 p5; clear k1 k2 k3; go_simp <;> with_reducible rfl)
  try simp only [Act.put, List.setIfInBounds_toArray, List.set_cons_zero, List.set_cons_succ]
  refine wpAnyH_done (by kernel_rfl) ?_ _
  have hBf := hB.trans (hHeld.mono hszU)
  have hsL := HSL.out _ hHeld
  have h1x := HPX.out _ hHeld
  clear HK1 HK2 HK3
  go_wp2_with fail
  refine (HT1.out _ _ _ h1x).mono ?_
  rintro e y1 ⟨rfl, hb⟩
  have hBf := since_step hBf hb
  have hsL := hsL.below hb
  have h1x := h1x.below hb
  clear hb
  go_wp2_with fail
  refine (HT2.out _ hsL).mono ?_
  rintro e y2 ⟨rfl, hb⟩
  have hBf := since_step hBf hb
  have hsL := hsL.below hb
  have h1x := h1x.below hb
  clear hb
  clear hsL
  go_wp2_with fail
  refine (HIS.out _ _ _ h1x).mono ?_
  rintro e y3 ⟨rfl, hb⟩
  have hBf := since_step hBf hb
  have h1x := h1x.below hb
  clear hb
  go_wp2_with fail
  refine (HLV.out _).mono ?_
  rintro e y4 ⟨rfl, hb⟩
  have hBf := since_step hBf hb
  have h1x := h1x.below hb
  clear hb
  go_wp2_with fail
  go_ret
  exact ⟨rfl, hBf⟩

set_option maxHeartbeats 16000000 in
set_option maxRecDepth 100000 in
theorem pmv_B1 (a0 : Option Addr) (n0 c0 : Nat) (L : List Fw) (fa fc ta tc oa oc m : Int) (w : World) (hL20 : L.length ≤ 20) (hLq : ∀ x ∈ L, Fw.in_ x) (hsL : Sl w a0 (rc Fw.cells L)) (hf : In64 fa ∧ In64 fc ∧ In64 ta ∧ In64 tc ∧ In64 m)
    (HF1 : Hid (∀ V, Below w.heap.size w V → Calls Try.prog 14 #[.slice a0 n0 c0] V fun e w' => e = .returned (.slice a0 L.length c0) ∧ Below V.heap.size V w')) (hm : m ≠ -9223372036854775808) (pn : Int) (PL : List Fw) (hPL : payR L [⟨fa, fc, -m⟩, ⟨ta, tc, m⟩] = (pn, PL)) (h0 : pn = 0) (hf1 : oa ≠ fa) (ht1 : oa = ta) (ht2 : oc = tc) :
    Calls Try.prog 4 #[.slice a0 n0 c0, .agg #[.int .i64 fa, .int .i64 fc], .agg #[.int .i64 ta, .int .i64 tc], .agg #[.int .i64 oa, .int .i64 oc], .int .i64 m] w fun e w' => e = .returned (.bool true) ∧ Below w.heap.size w w' := by
  have hB := since_alloc (since_alloc (since_alloc (Below.refl _ w) (.cells #[.int .i64 fa, .int .i64 fc] 24)) (.cells #[.int .i64 ta, .int .i64 tc] 24)) (.cells #[.int .i64 oa, .int .i64 oc] 24)
  have HF1 := Lib.hid (HF1.out _ hB)
  have hK1 := ((Bk.new w #[.int .i64 fa, .int .i64 fc] 24).alloc (.cells #[.int .i64 ta, .int .i64 tc] 24)).alloc (.cells #[.int .i64 oa, .int .i64 oc] 24)
  have hK2 := (Bk.new (w.alloc (.cells #[.int .i64 fa, .int .i64 fc] 24)) #[.int .i64 ta, .int .i64 tc] 24).alloc (.cells #[.int .i64 oa, .int .i64 oc] 24)
  have hK3 := Bk.new ((w.alloc (.cells #[.int .i64 fa, .int .i64 fc] 24)).alloc (.cells #[.int .i64 ta, .int .i64 tc] 24)) #[.int .i64 oa, .int .i64 oc] 24
  rw [World.size_alloc] at hK2
  rw [World.size_alloc, World.size_alloc] at hK3
  have hsL := ((hsL.alloc (.cells #[.int .i64 fa, .int .i64 fc] 24)).alloc (.cells #[.int .i64 ta, .int .i64 tc] 24)).alloc (.cells #[.int .i64 oa, .int .i64 oc] 24)
  have HM := Lib.hid (fun V h => pmove_any a0 c0 L fa fc ta tc m V (by omega) hLq hf h)
  have HLV := Lib.hid (fun V => lives17_any V)
  have hm6 : In64 (-m) := by obtain ⟨_, _, _, _, h⟩ := hf; unfold In64 at *; omega
  rw [moveR_pay hm6] at HM
  have hall : ∀ x ∈ L ++ [(⟨fa, fc, -m⟩ : Fw), ⟨ta, tc, m⟩], Fw.in_ x := fun x hx => by
    rcases List.mem_append.1 hx with hx | hx
    · exact hLq x hx
    · rcases List.mem_cons.1 hx with rfl | hx
      · exact ⟨hf.1, hf.2.1, hm6⟩
      · obtain rfl : x = ⟨ta, tc, m⟩ := by simpa using hx
        exact ⟨hf.2.2.1, hf.2.2.2.1, hf.2.2.2.2⟩
  have HRP := Lib.hid (fun A V h1 h2 => rppay_any a0 A c0 2 L [⟨fa, fc, -m⟩, ⟨ta, tc, m⟩] V (by omega) (by simp) hall h1 h2)
  have hpl := payR_len L [⟨fa, fc, -m⟩, ⟨ta, tc, m⟩]
  rw [hPL] at HM HRP hpl
  have hpl2 : PL.length ≤ 22 := by simpa using Nat.le_trans hpl (by simp; omega)
  have hpl3 : PL.length ≤ 1000000 := by omega
  have HSM := Lib.hid (fun A A2 c c2 V h1 h2 => rpsame_any_self A A2 c c2 PL V hpl3 h1 h2)
  unfold PRes at HM HRP
  simp only [List.length_cons, List.length_nil] at HM HRP
  have hpn : (pn != pn) = false := by simp
  have hmb : (m == -9223372036854775808) = false := by simpa using hm
  have hwn : IntKind.i64.wrap (-m) = -m := IntWalk.i64_in _ hm6
  subst h0
  obtain ⟨q1, q2, q3⟩ := moved_facts hPL
  have hPLq : ∀ x ∈ PL, In64 x.amt := by
    intro x hx
    unfold payR at hPL
    split at hPL
    · cases hPL
    · split at hPL
      · cases hPL
      · rename_i hfit
        injection hPL with _ e
        subst e
        obtain ⟨⟨y, hy, e1, e2⟩, h2, _⟩ := (mem_purseOf _ _).1 hx
        have hfit : fitsU (L ++ [(⟨fa, fc, -m⟩ : Fw), ⟨ta, tc, m⟩]) = true := by simpa using hfit
        unfold fitsU at hfit
        rw [List.all_eq_true] at hfit
        rw [h2]
        exact (fitI_iff _).1 (hfit ⟨x.ac, x.cl⟩ ((mem_unitsU _ _).2 ⟨y, hy, e1, e2⟩))
  have hLA : ∀ y ∈ L, In64 y.amt := fun y hy => (hLq y hy).2.2
  have HT1 := Lib.hid (fun A c V h => ptotal_any A c PL V (by omega) hPLq h)
  have HT2 := Lib.hid (fun V h => ptotal_any a0 c0 L V (by omega) hLA h)
  rw [q1] at HT1
  have HIS := Lib.hid (fun A c V h => pis_any A c PL V hpl3 h)
  rw [q2] at HIS
  obtain ⟨th, hth⟩ : ∃ n, hiN (totF L) = n := ⟨_, rfl⟩
  obtain ⟨tl, htl⟩ : ∃ n, loN (totF L) = n := ⟨_, rfl⟩
  rw [hth, htl] at HT1 HT2
  have hq1 : (th == th) = true := by simp
  have hq2 : (tl == tl) = true := by simp
  clear q1 q2 q3 hPLq hLA hth htl
  have bf1 : (oa != fa) = true := by simpa using hf1
  have cf1 : (oa == fa) = false := by simpa using hf1
  clear hf1
  have bt1 : (oa != ta) = false := by rw [ht1]; simp
  have bt2 : (oc != tc) = false := by rw [ht2]; simp
  have ct1 : (oa == ta) = true := by rw [ht1]; simp
  have ct2 : (oc == tc) = true := by rw [ht2]; simp
  clear ht1 ht2
  clear hm hm6 hall hpl hpl3 hPL hLq hf hL20
  go_enter Try.func4, Try.ntmps4
  go_upto_region 1 with fail
  generalize hWW : ((w.alloc (.cells #[.int .i64 fa, .int .i64 fc] 24)).alloc (.cells #[.int .i64 ta, .int .i64 tc] 24)).alloc (.cells #[.int .i64 oa, .int .i64 oc] 24) = W at *
  clear hWW
  obtain ⟨hK1_l, hK1_c⟩ := id hK1
  have hK1_0 := hK1_c 0
  have hK1_1 := hK1_c 1
  simp at hK1_0 hK1_1
  clear hK1_c
  obtain ⟨hK2_l, hK2_c⟩ := id hK2
  have hK2_0 := hK2_c 0
  have hK2_1 := hK2_c 1
  simp at hK2_0 hK2_1
  clear hK2_c
  obtain ⟨hK3_l, hK3_c⟩ := id hK3
  have hK3_0 := hK3_c 0
  have hK3_1 := hK3_c 1
  simp at hK3_0 hK3_1
  clear hK3_c
  go_wp2_with fail
  refine HF1.out.mono ?_
  rintro e z1 ⟨rfl, hb⟩
  have hB := since_step hB hb
  have hK1 := hK1.below hb
  have hK2 := hK2.below hb
  have hK3 := hK3.below hb
  have hsL := hsL.below hb
  clear hb HF1
  clear hK1_l hK1_0 hK1_1 hK2_l hK2_0 hK2_1 hK3_l hK3_0 hK3_1
  obtain ⟨hK1_l, hK1_c⟩ := id hK1
  have hK1_0 := hK1_c 0
  have hK1_1 := hK1_c 1
  simp at hK1_0 hK1_1
  clear hK1_c
  obtain ⟨hK2_l, hK2_c⟩ := id hK2
  have hK2_0 := hK2_c 0
  have hK2_1 := hK2_c 1
  simp at hK2_0 hK2_1
  clear hK2_c
  obtain ⟨hK3_l, hK3_c⟩ := id hK3
  have hK3_0 := hK3_c 0
  have hK3_1 := hK3_c 1
  simp at hK3_0 hK3_1
  clear hK3_c
  go_wp2_with fail
  refine (HM.out _ hsL).mono ?_
  rintro e z2 ⟨⟨A1x, c1x, rfl, h1x⟩, hb⟩
  have hB := since_step hB hb
  have hK1 := hK1.below hb
  have hK2 := hK2.below hb
  have hK3 := hK3.below hb
  have hsL := hsL.below hb
  clear hb
  clear hK1_l hK1_0 hK1_1 hK2_l hK2_0 hK2_1 hK3_l hK3_0 hK3_1
  obtain ⟨hK1_l, hK1_c⟩ := id hK1
  have hK1_0 := hK1_c 0
  have hK1_1 := hK1_c 1
  simp at hK1_0 hK1_1
  clear hK1_c
  obtain ⟨hK2_l, hK2_c⟩ := id hK2
  have hK2_0 := hK2_c 0
  have hK2_1 := hK2_c 1
  simp at hK2_0 hK2_1
  clear hK2_c
  obtain ⟨hK3_l, hK3_c⟩ := id hK3
  have hK3_0 := hK3_c 0
  have hK3_1 := hK3_c 1
  simp at hK3_0 hK3_1
  clear hK3_c
  have hnw := Sl.new_ z2 (rc Fw.cells [⟨fa, fc, -m⟩, ⟨ta, tc, m⟩]) 48
  have hA := (Below.refl z2.heap.size z2).alloc (Nat.le_refl _) (.cells #[.int .i64 fa, .int .i64 fc, .int .i64 (-m), .int .i64 ta, .int .i64 tc, .int .i64 m] 48)
  go_wp2_with fail
  have hB := since_step hB hA
  have hK1 := hK1.below hA
  have hK2 := hK2.below hA
  have hK3 := hK3.below hA
  have hsL := hsL.below hA
  have h1x := h1x.below hA
  refine (HRP.out _ _ hsL hnw).mono ?_
  rintro e z3 ⟨⟨A2x, c2x, rfl, h2x⟩, hb⟩
  have hB := since_step hB hb
  have hK1 := hK1.below hb
  have hK2 := hK2.below hb
  have hK3 := hK3.below hb
  have hsL := hsL.below hb
  have h1x := h1x.below hb
  clear hb hA hnw
  clear hK1_l hK1_0 hK1_1 hK2_l hK2_0 hK2_1 hK3_l hK3_0 hK3_1
  obtain ⟨hK1_l, hK1_c⟩ := id hK1
  have hK1_0 := hK1_c 0
  have hK1_1 := hK1_c 1
  simp at hK1_0 hK1_1
  clear hK1_c
  obtain ⟨hK2_l, hK2_c⟩ := id hK2
  have hK2_0 := hK2_c 0
  have hK2_1 := hK2_c 1
  simp at hK2_0 hK2_1
  clear hK2_c
  obtain ⟨hK3_l, hK3_c⟩ := id hK3
  have hK3_0 := hK3_c 0
  have hK3_1 := hK3_c 1
  simp at hK3_0 hK3_1
  clear hK3_c
  go_wp2_with fail
  refine (HSM.out _ _ _ _ _ h1x h2x).mono ?_
  rintro e z4 ⟨rfl, hb⟩
  have hB := since_step hB hb
  have hK1 := hK1.below hb
  have hK2 := hK2.below hb
  have hK3 := hK3.below hb
  have hsL := hsL.below hb
  have h1x := h1x.below hb
  have h2x := h2x.below hb
  clear hb
  clear hK1_l hK1_0 hK1_1 hK2_l hK2_0 hK2_1 hK3_l hK3_0 hK3_1
  clear h2x
  obtain ⟨hK1_l, hK1_c⟩ := id hK1
  have hK1_0 := hK1_c 0
  have hK1_1 := hK1_c 1
  simp at hK1_0 hK1_1
  clear hK1_c
  obtain ⟨hK2_l, hK2_c⟩ := id hK2
  have hK2_0 := hK2_c 0
  have hK2_1 := hK2_c 1
  simp at hK2_0 hK2_1
  clear hK2_c
  obtain ⟨hK3_l, hK3_c⟩ := id hK3
  have hK3_0 := hK3_c 0
  have hK3_1 := hK3_c 1
  simp at hK3_0 hK3_1
  clear hK3_c
  go_upto_region 13 with fail
  skip
  clear hK1_l hK1_0 hK1_1 hK2_l hK2_0 hK2_1 hK3_l hK3_0 hK3_1
  have HK1 : Hid (∀ V, Below z4.heap.size z4 V → Bk V w.heap.size #[.int .i64 fa, .int .i64 fc]) := Lib.hid fun V h => hK1.below h
  have HK2 : Hid (∀ V, Below z4.heap.size z4 V → Bk V (w.heap.size + 1) #[.int .i64 ta, .int .i64 tc]) := Lib.hid fun V h => hK2.below h
  have HK3 : Hid (∀ V, Below z4.heap.size z4 V → Bk V (w.heap.size + 1 + 1) #[.int .i64 oa, .int .i64 oc]) := Lib.hid fun V h => hK3.below h
  have HSL : Hid (∀ V, Below z4.heap.size z4 V → Sl V a0 (rc Fw.cells L)) := Lib.hid fun V h => hsL.below h
  have HPX : Hid (∀ V, Below z4.heap.size z4 V → Sl V A1x (rc Fw.cells PL)) := Lib.hid fun V h => h1x.below h
  have hszU := hB.size
  clear hK1 hK2 hK3 hsL h1x
  go_wp2_with fail
  refine wp_region_held_drew (S := (fun V => Below z4.heap.size z4 V)) (by kernel_rfl) (by exact (Below.refl _ _).drew) (fun hHeld => ?_)
  refine wpAnyH_take (i := 0) (oi := { dst := some 67, op := _, type := _, pos := _, after := _, guard := _ }) (v := ?_) rfl (by kernel_rfl) (by kernel_rfl) (by kernel_rfl) (fun _ _ _ h => h) (Or.inl ⟨by rfl, ?_⟩) hHeld ?_
  rotate_left
  · (intro w hSw; obtain ⟨l1, k1⟩ := HK1.out _ hSw; have p0 := k1 0; have p1 := k1 1; obtain ⟨l2, k2⟩ := HK2.out _ hSw; have p2 := k2 0; have p3 := k2 1; obtain ⟨l3, k3⟩ := HK3.out _ hSw; have p4 := k3 0; have p5 := k3 1; simp at p0 p1 p2 p3 p4 p5; clear k1 k2 k3; go_simp <;> with_reducible rfl)
  try simp only [Act.put, List.setIfInBounds_toArray, List.set_cons_zero, List.set_cons_succ]
  refine wpAnyH_take (i := 1) (oi := { dst := some 68, op := _, type := _, pos := _, after := _, guard := _ }) (v := ?_) rfl (by kernel_rfl) (by kernel_rfl) (by kernel_rfl) (fun _ _ _ h => h) (Or.inl ⟨by rfl, ?_⟩) hHeld ?_
  rotate_left
  · (intro w hSw; obtain ⟨l1, k1⟩ := HK1.out _ hSw; have p0 := k1 0; have p1 := k1 1; obtain ⟨l2, k2⟩ := HK2.out _ hSw; have p2 := k2 0; have p3 := k2 1; obtain ⟨l3, k3⟩ := HK3.out _ hSw; have p4 := k3 0; have p5 := k3 1; simp at p0 p1 p2 p3 p4 p5; clear k1 k2 k3; go_simp <;> with_reducible rfl)
  try simp only [Act.put, List.setIfInBounds_toArray, List.set_cons_zero, List.set_cons_succ]
  refine wpAnyH_take (i := 2) (oi := { dst := some 69, op := _, type := _, pos := _, after := _, guard := _ }) (v := ?_) rfl (by kernel_rfl) (by kernel_rfl) (by kernel_rfl) (fun _ _ _ h => h) (Or.inl ⟨by rfl, ?_⟩) hHeld ?_
  rotate_left
  · (intro w hSw; obtain ⟨l1, k1⟩ := HK1.out _ hSw; have p0 := k1 0; have p1 := k1 1; obtain ⟨l2, k2⟩ := HK2.out _ hSw; have p2 := k2 0; have p3 := k2 1; obtain ⟨l3, k3⟩ := HK3.out _ hSw; have p4 := k3 0; have p5 := k3 1; simp at p0 p1 p2 p3 p4 p5; clear k1 k2 k3; go_simp <;> with_reducible rfl)
  try simp only [Act.put, List.setIfInBounds_toArray, List.set_cons_zero, List.set_cons_succ]
  refine wpAnyH_take (i := 3) (oi := { dst := some 70, op := _, type := _, pos := _, after := _, guard := _ }) (v := ?_) rfl (by kernel_rfl) (by kernel_rfl) (by kernel_rfl) (fun _ _ _ h => h) (Or.inl ⟨by rfl, ?_⟩) hHeld ?_
  rotate_left
  · (intro w hSw; obtain ⟨l1, k1⟩ := HK1.out _ hSw; have p0 := k1 0; have p1 := k1 1; obtain ⟨l2, k2⟩ := HK2.out _ hSw; have p2 := k2 0; have p3 := k2 1; obtain ⟨l3, k3⟩ := HK3.out _ hSw; have p4 := k3 0; have p5 := k3 1; simp at p0 p1 p2 p3 p4 p5; clear k1 k2 k3; go_simp <;> with_reducible rfl)
  try simp only [Act.put, List.setIfInBounds_toArray, List.set_cons_zero, List.set_cons_succ]
  refine wpAnyH_take (i := 4) (oi := { dst := some 71, op := _, type := _, pos := _, after := _, guard := _ }) (v := ?_) rfl (by kernel_rfl) (by kernel_rfl) (by kernel_rfl) (fun _ _ _ h => h) (Or.inl ⟨by rfl, ?_⟩) hHeld ?_
  rotate_left
  · (intro w hSw; obtain ⟨l1, k1⟩ := HK1.out _ hSw; have p0 := k1 0; have p1 := k1 1; obtain ⟨l2, k2⟩ := HK2.out _ hSw; have p2 := k2 0; have p3 := k2 1; obtain ⟨l3, k3⟩ := HK3.out _ hSw; have p4 := k3 0; have p5 := k3 1; simp at p0 p1 p2 p3 p4 p5; clear k1 k2 k3; go_simp <;> with_reducible rfl)
  try simp only [Act.put, List.setIfInBounds_toArray, List.set_cons_zero, List.set_cons_succ]
  refine wpAnyH_take (i := 5) (oi := { dst := some 72, op := _, type := _, pos := _, after := _, guard := _ }) (v := ?_) rfl (by kernel_rfl) (by kernel_rfl) (by kernel_rfl) (fun _ _ _ h => h) (Or.inl ⟨by rfl, ?_⟩) hHeld ?_
  rotate_left
  · (intro w hSw; obtain ⟨l1, k1⟩ := HK1.out _ hSw; have p0 := k1 0; have p1 := k1 1; obtain ⟨l2, k2⟩ := HK2.out _ hSw; have p2 := k2 0; have p3 := k2 1; obtain ⟨l3, k3⟩ := HK3.out _ hSw; have p4 := k3 0; have p5 := k3 1; simp at p0 p1 p2 p3 p4 p5; clear k1 k2 k3; go_simp <;> with_reducible rfl)
  try simp only [Act.put, List.setIfInBounds_toArray, List.set_cons_zero, List.set_cons_succ]
  refine wpAnyH_take (i := 6) (oi := { dst := some 73, op := _, type := _, pos := _, after := _, guard := _ }) (v := ?_) rfl (by kernel_rfl) (by kernel_rfl) (by kernel_rfl) (fun _ _ _ h => h) (Or.inl ⟨by rfl, ?_⟩) hHeld ?_
  rotate_left
  · (intro w hSw; obtain ⟨l1, k1⟩ := HK1.out _ hSw; have p0 := k1 0; have p1 := k1 1; obtain ⟨l2, k2⟩ := HK2.out _ hSw; have p2 := k2 0; have p3 := k2 1; obtain ⟨l3, k3⟩ := HK3.out _ hSw; have p4 := k3 0; have p5 := k3 1; simp at p0 p1 p2 p3 p4 p5; clear k1 k2 k3; go_simp <;> with_reducible rfl)
  try simp only [Act.put, List.setIfInBounds_toArray, List.set_cons_zero, List.set_cons_succ]
  refine wpAnyH_take (i := 7) (oi := { dst := some 74, op := _, type := _, pos := _, after := _, guard := _ }) (v := ?_) rfl (by kernel_rfl) (by kernel_rfl) (by kernel_rfl) (fun _ _ _ h => h) (Or.inl ⟨by rfl, ?_⟩) hHeld ?_
  rotate_left
  · (intro w hSw; obtain ⟨l1, k1⟩ := HK1.out _ hSw; have p0 := k1 0; have p1 := k1 1; obtain ⟨l2, k2⟩ := HK2.out _ hSw; have p2 := k2 0; have p3 := k2 1; obtain ⟨l3, k3⟩ := HK3.out _ hSw; have p4 := k3 0; have p5 := k3 1; simp at p0 p1 p2 p3 p4 p5; clear k1 k2 k3; go_simp <;> with_reducible rfl)
  try simp only [Act.put, List.setIfInBounds_toArray, List.set_cons_zero, List.set_cons_succ]
  refine wpAnyH_take (i := 8) (oi := { dst := some 75, op := _, type := _, pos := _, after := _, guard := _ }) (v := ?_) rfl (by kernel_rfl) (by kernel_rfl) (by kernel_rfl) (fun _ _ _ h => h) (Or.inl ⟨by rfl, ?_⟩) hHeld ?_
  rotate_left
  · (intro w hSw; obtain ⟨l1, k1⟩ := HK1.out _ hSw; have p0 := k1 0; have p1 := k1 1; obtain ⟨l2, k2⟩ := HK2.out _ hSw; have p2 := k2 0; have p3 := k2 1; obtain ⟨l3, k3⟩ := HK3.out _ hSw; have p4 := k3 0; have p5 := k3 1; simp at p0 p1 p2 p3 p4 p5; clear k1 k2 k3; go_simp <;> with_reducible rfl)
  try simp only [Act.put, List.setIfInBounds_toArray, List.set_cons_zero, List.set_cons_succ]
  refine wpAnyH_take (i := 9) (oi := { dst := some 76, op := _, type := _, pos := _, after := _, guard := _ }) (v := undef) rfl (by kernel_rfl) (by kernel_rfl) (by kernel_rfl) (fun _ _ _ h => h) (Or.inr ⟨by rfl, rfl⟩) hHeld ?_
  try simp only [Act.put, List.setIfInBounds_toArray, List.set_cons_zero, List.set_cons_succ]
  refine wpAnyH_take (i := 10) (oi := { dst := some 77, op := _, type := _, pos := _, after := _, guard := _ }) (v := undef) rfl (by kernel_rfl) (by kernel_rfl) (by kernel_rfl) (fun _ _ _ h => h) (Or.inr ⟨by rfl, rfl⟩) hHeld ?_
  try simp only [Act.put, List.setIfInBounds_toArray, List.set_cons_zero, List.set_cons_succ]
  refine wpAnyH_take (i := 11) (oi := { dst := some 78, op := _, type := _, pos := _, after := _, guard := _ }) (v := undef) rfl (by kernel_rfl) (by kernel_rfl) (by kernel_rfl) (fun _ _ _ h => h) (Or.inr ⟨by rfl, rfl⟩) hHeld ?_
  try simp only [Act.put, List.setIfInBounds_toArray, List.set_cons_zero, List.set_cons_succ]
  refine wpAnyH_take (i := 12) (oi := { dst := some 79, op := _, type := _, pos := _, after := _, guard := _ }) (v := undef) rfl (by kernel_rfl) (by kernel_rfl) (by kernel_rfl) (fun _ _ _ h => h) (Or.inr ⟨by rfl, rfl⟩) hHeld ?_
  try simp only [Act.put, List.setIfInBounds_toArray, List.set_cons_zero, List.set_cons_succ]
  refine wpAnyH_take (i := 13) (oi := { dst := some 80, op := _, type := _, pos := _, after := _, guard := _ }) (v := undef) rfl (by kernel_rfl) (by kernel_rfl) (by kernel_rfl) (fun _ _ _ h => h) (Or.inr ⟨by rfl, rfl⟩) hHeld ?_
  try simp only [Act.put, List.setIfInBounds_toArray, List.set_cons_zero, List.set_cons_succ]
  refine wpAnyH_take (i := 14) (oi := { dst := some 81, op := _, type := _, pos := _, after := _, guard := _ }) (v := undef) rfl (by kernel_rfl) (by kernel_rfl) (by kernel_rfl) (fun _ _ _ h => h) (Or.inr ⟨by rfl, rfl⟩) hHeld ?_
  try simp only [Act.put, List.setIfInBounds_toArray, List.set_cons_zero, List.set_cons_succ]
  refine wpAnyH_take (i := 15) (oi := { dst := some 82, op := _, type := _, pos := _, after := _, guard := _ }) (v := undef) rfl (by kernel_rfl) (by kernel_rfl) (by kernel_rfl) (fun _ _ _ h => h) (Or.inr ⟨by rfl, rfl⟩) hHeld ?_
  try simp only [Act.put, List.setIfInBounds_toArray, List.set_cons_zero, List.set_cons_succ]
  refine wpAnyH_take (i := 16) (oi := { dst := some 83, op := _, type := _, pos := _, after := _, guard := _ }) (v := ?_) rfl (by kernel_rfl) (by kernel_rfl) (by kernel_rfl) (fun _ _ _ h => h) (Or.inl ⟨by rfl, ?_⟩) hHeld ?_
  rotate_left
  · (intro w hSw; obtain ⟨l1, k1⟩ := HK1.out _ hSw; have p0 := k1 0; have p1 := k1 1; obtain ⟨l2, k2⟩ := HK2.out _ hSw; have p2 := k2 0; have p3 := k2 1; obtain ⟨l3, k3⟩ := HK3.out _ hSw; have p4 := k3 0; have p5 := k3 1; simp at p0 p1 p2 p3 p4 p5; clear k1 k2 k3; go_simp <;> with_reducible rfl)
  try simp only [Act.put, List.setIfInBounds_toArray, List.set_cons_zero, List.set_cons_succ]
  refine wpAnyH_done (by kernel_rfl) ?_ _
  have hBf := hB.trans (hHeld.mono hszU)
  have hsL := HSL.out _ hHeld
  have h1x := HPX.out _ hHeld
  clear HK1 HK2 HK3
  go_wp2_with fail
  refine (HT1.out _ _ _ h1x).mono ?_
  rintro e y1 ⟨rfl, hb⟩
  have hBf := since_step hBf hb
  have hsL := hsL.below hb
  have h1x := h1x.below hb
  clear hb
  go_wp2_with fail
  refine (HT2.out _ hsL).mono ?_
  rintro e y2 ⟨rfl, hb⟩
  have hBf := since_step hBf hb
  have hsL := hsL.below hb
  have h1x := h1x.below hb
  clear hb
  clear hsL
  go_wp2_with fail
  refine (HIS.out _ _ _ h1x).mono ?_
  rintro e y3 ⟨rfl, hb⟩
  have hBf := since_step hBf hb
  have h1x := h1x.below hb
  clear hb
  go_wp2_with fail
  refine (HLV.out _).mono ?_
  rintro e y4 ⟨rfl, hb⟩
  have hBf := since_step hBf hb
  have h1x := h1x.below hb
  clear hb
  go_wp2_with fail
  go_ret
  exact ⟨rfl, hBf⟩

set_option maxHeartbeats 16000000 in
set_option maxRecDepth 100000 in
theorem pmv_B2 (a0 : Option Addr) (n0 c0 : Nat) (L : List Fw) (fa fc ta tc oa oc m : Int) (w : World) (hL20 : L.length ≤ 20) (hLq : ∀ x ∈ L, Fw.in_ x) (hsL : Sl w a0 (rc Fw.cells L)) (hf : In64 fa ∧ In64 fc ∧ In64 ta ∧ In64 tc ∧ In64 m)
    (HF1 : Hid (∀ V, Below w.heap.size w V → Calls Try.prog 14 #[.slice a0 n0 c0] V fun e w' => e = .returned (.slice a0 L.length c0) ∧ Below V.heap.size V w')) (hm : m ≠ -9223372036854775808) (pn : Int) (PL : List Fw) (hPL : payR L [⟨fa, fc, -m⟩, ⟨ta, tc, m⟩] = (pn, PL)) (h0 : pn = 0) (hf1 : oa = fa) (hf2 : oc ≠ fc) (ht1 : oa = ta) (ht2 : oc = tc) :
    Calls Try.prog 4 #[.slice a0 n0 c0, .agg #[.int .i64 fa, .int .i64 fc], .agg #[.int .i64 ta, .int .i64 tc], .agg #[.int .i64 oa, .int .i64 oc], .int .i64 m] w fun e w' => e = .returned (.bool true) ∧ Below w.heap.size w w' := by
  have hB := since_alloc (since_alloc (since_alloc (Below.refl _ w) (.cells #[.int .i64 fa, .int .i64 fc] 24)) (.cells #[.int .i64 ta, .int .i64 tc] 24)) (.cells #[.int .i64 oa, .int .i64 oc] 24)
  have HF1 := Lib.hid (HF1.out _ hB)
  have hK1 := ((Bk.new w #[.int .i64 fa, .int .i64 fc] 24).alloc (.cells #[.int .i64 ta, .int .i64 tc] 24)).alloc (.cells #[.int .i64 oa, .int .i64 oc] 24)
  have hK2 := (Bk.new (w.alloc (.cells #[.int .i64 fa, .int .i64 fc] 24)) #[.int .i64 ta, .int .i64 tc] 24).alloc (.cells #[.int .i64 oa, .int .i64 oc] 24)
  have hK3 := Bk.new ((w.alloc (.cells #[.int .i64 fa, .int .i64 fc] 24)).alloc (.cells #[.int .i64 ta, .int .i64 tc] 24)) #[.int .i64 oa, .int .i64 oc] 24
  rw [World.size_alloc] at hK2
  rw [World.size_alloc, World.size_alloc] at hK3
  have hsL := ((hsL.alloc (.cells #[.int .i64 fa, .int .i64 fc] 24)).alloc (.cells #[.int .i64 ta, .int .i64 tc] 24)).alloc (.cells #[.int .i64 oa, .int .i64 oc] 24)
  have HM := Lib.hid (fun V h => pmove_any a0 c0 L fa fc ta tc m V (by omega) hLq hf h)
  have HLV := Lib.hid (fun V => lives17_any V)
  have hm6 : In64 (-m) := by obtain ⟨_, _, _, _, h⟩ := hf; unfold In64 at *; omega
  rw [moveR_pay hm6] at HM
  have hall : ∀ x ∈ L ++ [(⟨fa, fc, -m⟩ : Fw), ⟨ta, tc, m⟩], Fw.in_ x := fun x hx => by
    rcases List.mem_append.1 hx with hx | hx
    · exact hLq x hx
    · rcases List.mem_cons.1 hx with rfl | hx
      · exact ⟨hf.1, hf.2.1, hm6⟩
      · obtain rfl : x = ⟨ta, tc, m⟩ := by simpa using hx
        exact ⟨hf.2.2.1, hf.2.2.2.1, hf.2.2.2.2⟩
  have HRP := Lib.hid (fun A V h1 h2 => rppay_any a0 A c0 2 L [⟨fa, fc, -m⟩, ⟨ta, tc, m⟩] V (by omega) (by simp) hall h1 h2)
  have hpl := payR_len L [⟨fa, fc, -m⟩, ⟨ta, tc, m⟩]
  rw [hPL] at HM HRP hpl
  have hpl2 : PL.length ≤ 22 := by simpa using Nat.le_trans hpl (by simp; omega)
  have hpl3 : PL.length ≤ 1000000 := by omega
  have HSM := Lib.hid (fun A A2 c c2 V h1 h2 => rpsame_any_self A A2 c c2 PL V hpl3 h1 h2)
  unfold PRes at HM HRP
  simp only [List.length_cons, List.length_nil] at HM HRP
  have hpn : (pn != pn) = false := by simp
  have hmb : (m == -9223372036854775808) = false := by simpa using hm
  have hwn : IntKind.i64.wrap (-m) = -m := IntWalk.i64_in _ hm6
  subst h0
  obtain ⟨q1, q2, q3⟩ := moved_facts hPL
  have hPLq : ∀ x ∈ PL, In64 x.amt := by
    intro x hx
    unfold payR at hPL
    split at hPL
    · cases hPL
    · split at hPL
      · cases hPL
      · rename_i hfit
        injection hPL with _ e
        subst e
        obtain ⟨⟨y, hy, e1, e2⟩, h2, _⟩ := (mem_purseOf _ _).1 hx
        have hfit : fitsU (L ++ [(⟨fa, fc, -m⟩ : Fw), ⟨ta, tc, m⟩]) = true := by simpa using hfit
        unfold fitsU at hfit
        rw [List.all_eq_true] at hfit
        rw [h2]
        exact (fitI_iff _).1 (hfit ⟨x.ac, x.cl⟩ ((mem_unitsU _ _).2 ⟨y, hy, e1, e2⟩))
  have hLA : ∀ y ∈ L, In64 y.amt := fun y hy => (hLq y hy).2.2
  have HT1 := Lib.hid (fun A c V h => ptotal_any A c PL V (by omega) hPLq h)
  have HT2 := Lib.hid (fun V h => ptotal_any a0 c0 L V (by omega) hLA h)
  rw [q1] at HT1
  have HIS := Lib.hid (fun A c V h => pis_any A c PL V hpl3 h)
  rw [q2] at HIS
  obtain ⟨th, hth⟩ : ∃ n, hiN (totF L) = n := ⟨_, rfl⟩
  obtain ⟨tl, htl⟩ : ∃ n, loN (totF L) = n := ⟨_, rfl⟩
  rw [hth, htl] at HT1 HT2
  have hq1 : (th == th) = true := by simp
  have hq2 : (tl == tl) = true := by simp
  clear q1 q2 q3 hPLq hLA hth htl
  have bf1 : (oa != fa) = false := by rw [hf1]; simp
  have bf2 : (oc != fc) = true := by simpa using hf2
  have cf1 : (oa == fa) = true := by rw [hf1]; simp
  have cf2 : (oc == fc) = false := by simpa using hf2
  clear hf1 hf2
  have bt1 : (oa != ta) = false := by rw [ht1]; simp
  have bt2 : (oc != tc) = false := by rw [ht2]; simp
  have ct1 : (oa == ta) = true := by rw [ht1]; simp
  have ct2 : (oc == tc) = true := by rw [ht2]; simp
  clear ht1 ht2
  clear hm hm6 hall hpl hpl3 hPL hLq hf hL20
  go_enter Try.func4, Try.ntmps4
  go_upto_region 1 with fail
  generalize hWW : ((w.alloc (.cells #[.int .i64 fa, .int .i64 fc] 24)).alloc (.cells #[.int .i64 ta, .int .i64 tc] 24)).alloc (.cells #[.int .i64 oa, .int .i64 oc] 24) = W at *
  clear hWW
  obtain ⟨hK1_l, hK1_c⟩ := id hK1
  have hK1_0 := hK1_c 0
  have hK1_1 := hK1_c 1
  simp at hK1_0 hK1_1
  clear hK1_c
  obtain ⟨hK2_l, hK2_c⟩ := id hK2
  have hK2_0 := hK2_c 0
  have hK2_1 := hK2_c 1
  simp at hK2_0 hK2_1
  clear hK2_c
  obtain ⟨hK3_l, hK3_c⟩ := id hK3
  have hK3_0 := hK3_c 0
  have hK3_1 := hK3_c 1
  simp at hK3_0 hK3_1
  clear hK3_c
  go_wp2_with fail
  refine HF1.out.mono ?_
  rintro e z1 ⟨rfl, hb⟩
  have hB := since_step hB hb
  have hK1 := hK1.below hb
  have hK2 := hK2.below hb
  have hK3 := hK3.below hb
  have hsL := hsL.below hb
  clear hb HF1
  clear hK1_l hK1_0 hK1_1 hK2_l hK2_0 hK2_1 hK3_l hK3_0 hK3_1
  obtain ⟨hK1_l, hK1_c⟩ := id hK1
  have hK1_0 := hK1_c 0
  have hK1_1 := hK1_c 1
  simp at hK1_0 hK1_1
  clear hK1_c
  obtain ⟨hK2_l, hK2_c⟩ := id hK2
  have hK2_0 := hK2_c 0
  have hK2_1 := hK2_c 1
  simp at hK2_0 hK2_1
  clear hK2_c
  obtain ⟨hK3_l, hK3_c⟩ := id hK3
  have hK3_0 := hK3_c 0
  have hK3_1 := hK3_c 1
  simp at hK3_0 hK3_1
  clear hK3_c
  go_wp2_with fail
  refine (HM.out _ hsL).mono ?_
  rintro e z2 ⟨⟨A1x, c1x, rfl, h1x⟩, hb⟩
  have hB := since_step hB hb
  have hK1 := hK1.below hb
  have hK2 := hK2.below hb
  have hK3 := hK3.below hb
  have hsL := hsL.below hb
  clear hb
  clear hK1_l hK1_0 hK1_1 hK2_l hK2_0 hK2_1 hK3_l hK3_0 hK3_1
  obtain ⟨hK1_l, hK1_c⟩ := id hK1
  have hK1_0 := hK1_c 0
  have hK1_1 := hK1_c 1
  simp at hK1_0 hK1_1
  clear hK1_c
  obtain ⟨hK2_l, hK2_c⟩ := id hK2
  have hK2_0 := hK2_c 0
  have hK2_1 := hK2_c 1
  simp at hK2_0 hK2_1
  clear hK2_c
  obtain ⟨hK3_l, hK3_c⟩ := id hK3
  have hK3_0 := hK3_c 0
  have hK3_1 := hK3_c 1
  simp at hK3_0 hK3_1
  clear hK3_c
  have hnw := Sl.new_ z2 (rc Fw.cells [⟨fa, fc, -m⟩, ⟨ta, tc, m⟩]) 48
  have hA := (Below.refl z2.heap.size z2).alloc (Nat.le_refl _) (.cells #[.int .i64 fa, .int .i64 fc, .int .i64 (-m), .int .i64 ta, .int .i64 tc, .int .i64 m] 48)
  go_wp2_with fail
  have hB := since_step hB hA
  have hK1 := hK1.below hA
  have hK2 := hK2.below hA
  have hK3 := hK3.below hA
  have hsL := hsL.below hA
  have h1x := h1x.below hA
  refine (HRP.out _ _ hsL hnw).mono ?_
  rintro e z3 ⟨⟨A2x, c2x, rfl, h2x⟩, hb⟩
  have hB := since_step hB hb
  have hK1 := hK1.below hb
  have hK2 := hK2.below hb
  have hK3 := hK3.below hb
  have hsL := hsL.below hb
  have h1x := h1x.below hb
  clear hb hA hnw
  clear hK1_l hK1_0 hK1_1 hK2_l hK2_0 hK2_1 hK3_l hK3_0 hK3_1
  obtain ⟨hK1_l, hK1_c⟩ := id hK1
  have hK1_0 := hK1_c 0
  have hK1_1 := hK1_c 1
  simp at hK1_0 hK1_1
  clear hK1_c
  obtain ⟨hK2_l, hK2_c⟩ := id hK2
  have hK2_0 := hK2_c 0
  have hK2_1 := hK2_c 1
  simp at hK2_0 hK2_1
  clear hK2_c
  obtain ⟨hK3_l, hK3_c⟩ := id hK3
  have hK3_0 := hK3_c 0
  have hK3_1 := hK3_c 1
  simp at hK3_0 hK3_1
  clear hK3_c
  go_wp2_with fail
  refine (HSM.out _ _ _ _ _ h1x h2x).mono ?_
  rintro e z4 ⟨rfl, hb⟩
  have hB := since_step hB hb
  have hK1 := hK1.below hb
  have hK2 := hK2.below hb
  have hK3 := hK3.below hb
  have hsL := hsL.below hb
  have h1x := h1x.below hb
  have h2x := h2x.below hb
  clear hb
  clear hK1_l hK1_0 hK1_1 hK2_l hK2_0 hK2_1 hK3_l hK3_0 hK3_1
  clear h2x
  obtain ⟨hK1_l, hK1_c⟩ := id hK1
  have hK1_0 := hK1_c 0
  have hK1_1 := hK1_c 1
  simp at hK1_0 hK1_1
  clear hK1_c
  obtain ⟨hK2_l, hK2_c⟩ := id hK2
  have hK2_0 := hK2_c 0
  have hK2_1 := hK2_c 1
  simp at hK2_0 hK2_1
  clear hK2_c
  obtain ⟨hK3_l, hK3_c⟩ := id hK3
  have hK3_0 := hK3_c 0
  have hK3_1 := hK3_c 1
  simp at hK3_0 hK3_1
  clear hK3_c
  go_upto_region 13 with fail
  skip
  clear hK1_l hK1_0 hK1_1 hK2_l hK2_0 hK2_1 hK3_l hK3_0 hK3_1
  have HK1 : Hid (∀ V, Below z4.heap.size z4 V → Bk V w.heap.size #[.int .i64 fa, .int .i64 fc]) := Lib.hid fun V h => hK1.below h
  have HK2 : Hid (∀ V, Below z4.heap.size z4 V → Bk V (w.heap.size + 1) #[.int .i64 ta, .int .i64 tc]) := Lib.hid fun V h => hK2.below h
  have HK3 : Hid (∀ V, Below z4.heap.size z4 V → Bk V (w.heap.size + 1 + 1) #[.int .i64 oa, .int .i64 oc]) := Lib.hid fun V h => hK3.below h
  have HSL : Hid (∀ V, Below z4.heap.size z4 V → Sl V a0 (rc Fw.cells L)) := Lib.hid fun V h => hsL.below h
  have HPX : Hid (∀ V, Below z4.heap.size z4 V → Sl V A1x (rc Fw.cells PL)) := Lib.hid fun V h => h1x.below h
  have hszU := hB.size
  clear hK1 hK2 hK3 hsL h1x
  go_wp2_with fail
  refine wp_region_held_drew (S := (fun V => Below z4.heap.size z4 V)) (by kernel_rfl) (by exact (Below.refl _ _).drew) (fun hHeld => ?_)
  refine wpAnyH_take (i := 0) (oi := { dst := some 67, op := _, type := _, pos := _, after := _, guard := _ }) (v := ?_) rfl (by kernel_rfl) (by kernel_rfl) (by kernel_rfl) (fun _ _ _ h => h) (Or.inl ⟨by rfl, ?_⟩) hHeld ?_
  rotate_left
  · (intro w hSw; obtain ⟨l1, k1⟩ := HK1.out _ hSw; have p0 := k1 0; have p1 := k1 1; obtain ⟨l2, k2⟩ := HK2.out _ hSw; have p2 := k2 0; have p3 := k2 1; obtain ⟨l3, k3⟩ := HK3.out _ hSw; have p4 := k3 0; have p5 := k3 1; simp at p0 p1 p2 p3 p4 p5; clear k1 k2 k3; go_simp <;> with_reducible rfl)
  try simp only [Act.put, List.setIfInBounds_toArray, List.set_cons_zero, List.set_cons_succ]
  refine wpAnyH_take (i := 1) (oi := { dst := some 68, op := _, type := _, pos := _, after := _, guard := _ }) (v := ?_) rfl (by kernel_rfl) (by kernel_rfl) (by kernel_rfl) (fun _ _ _ h => h) (Or.inl ⟨by rfl, ?_⟩) hHeld ?_
  rotate_left
  · (intro w hSw; obtain ⟨l1, k1⟩ := HK1.out _ hSw; have p0 := k1 0; have p1 := k1 1; obtain ⟨l2, k2⟩ := HK2.out _ hSw; have p2 := k2 0; have p3 := k2 1; obtain ⟨l3, k3⟩ := HK3.out _ hSw; have p4 := k3 0; have p5 := k3 1; simp at p0 p1 p2 p3 p4 p5; clear k1 k2 k3; go_simp <;> with_reducible rfl)
  try simp only [Act.put, List.setIfInBounds_toArray, List.set_cons_zero, List.set_cons_succ]
  refine wpAnyH_take (i := 2) (oi := { dst := some 69, op := _, type := _, pos := _, after := _, guard := _ }) (v := ?_) rfl (by kernel_rfl) (by kernel_rfl) (by kernel_rfl) (fun _ _ _ h => h) (Or.inl ⟨by rfl, ?_⟩) hHeld ?_
  rotate_left
  · (intro w hSw; obtain ⟨l1, k1⟩ := HK1.out _ hSw; have p0 := k1 0; have p1 := k1 1; obtain ⟨l2, k2⟩ := HK2.out _ hSw; have p2 := k2 0; have p3 := k2 1; obtain ⟨l3, k3⟩ := HK3.out _ hSw; have p4 := k3 0; have p5 := k3 1; simp at p0 p1 p2 p3 p4 p5; clear k1 k2 k3; go_simp <;> with_reducible rfl)
  try simp only [Act.put, List.setIfInBounds_toArray, List.set_cons_zero, List.set_cons_succ]
  refine wpAnyH_take (i := 3) (oi := { dst := some 70, op := _, type := _, pos := _, after := _, guard := _ }) (v := ?_) rfl (by kernel_rfl) (by kernel_rfl) (by kernel_rfl) (fun _ _ _ h => h) (Or.inl ⟨by rfl, ?_⟩) hHeld ?_
  rotate_left
  · (intro w hSw; obtain ⟨l1, k1⟩ := HK1.out _ hSw; have p0 := k1 0; have p1 := k1 1; obtain ⟨l2, k2⟩ := HK2.out _ hSw; have p2 := k2 0; have p3 := k2 1; obtain ⟨l3, k3⟩ := HK3.out _ hSw; have p4 := k3 0; have p5 := k3 1; simp at p0 p1 p2 p3 p4 p5; clear k1 k2 k3; go_simp <;> with_reducible rfl)
  try simp only [Act.put, List.setIfInBounds_toArray, List.set_cons_zero, List.set_cons_succ]
  refine wpAnyH_take (i := 4) (oi := { dst := some 71, op := _, type := _, pos := _, after := _, guard := _ }) (v := ?_) rfl (by kernel_rfl) (by kernel_rfl) (by kernel_rfl) (fun _ _ _ h => h) (Or.inl ⟨by rfl, ?_⟩) hHeld ?_
  rotate_left
  · (intro w hSw; obtain ⟨l1, k1⟩ := HK1.out _ hSw; have p0 := k1 0; have p1 := k1 1; obtain ⟨l2, k2⟩ := HK2.out _ hSw; have p2 := k2 0; have p3 := k2 1; obtain ⟨l3, k3⟩ := HK3.out _ hSw; have p4 := k3 0; have p5 := k3 1; simp at p0 p1 p2 p3 p4 p5; clear k1 k2 k3; go_simp <;> with_reducible rfl)
  try simp only [Act.put, List.setIfInBounds_toArray, List.set_cons_zero, List.set_cons_succ]
  refine wpAnyH_take (i := 5) (oi := { dst := some 72, op := _, type := _, pos := _, after := _, guard := _ }) (v := ?_) rfl (by kernel_rfl) (by kernel_rfl) (by kernel_rfl) (fun _ _ _ h => h) (Or.inl ⟨by rfl, ?_⟩) hHeld ?_
  rotate_left
  · (intro w hSw; obtain ⟨l1, k1⟩ := HK1.out _ hSw; have p0 := k1 0; have p1 := k1 1; obtain ⟨l2, k2⟩ := HK2.out _ hSw; have p2 := k2 0; have p3 := k2 1; obtain ⟨l3, k3⟩ := HK3.out _ hSw; have p4 := k3 0; have p5 := k3 1; simp at p0 p1 p2 p3 p4 p5; clear k1 k2 k3; go_simp <;> with_reducible rfl)
  try simp only [Act.put, List.setIfInBounds_toArray, List.set_cons_zero, List.set_cons_succ]
  refine wpAnyH_take (i := 6) (oi := { dst := some 73, op := _, type := _, pos := _, after := _, guard := _ }) (v := ?_) rfl (by kernel_rfl) (by kernel_rfl) (by kernel_rfl) (fun _ _ _ h => h) (Or.inl ⟨by rfl, ?_⟩) hHeld ?_
  rotate_left
  · (intro w hSw; obtain ⟨l1, k1⟩ := HK1.out _ hSw; have p0 := k1 0; have p1 := k1 1; obtain ⟨l2, k2⟩ := HK2.out _ hSw; have p2 := k2 0; have p3 := k2 1; obtain ⟨l3, k3⟩ := HK3.out _ hSw; have p4 := k3 0; have p5 := k3 1; simp at p0 p1 p2 p3 p4 p5; clear k1 k2 k3; go_simp <;> with_reducible rfl)
  try simp only [Act.put, List.setIfInBounds_toArray, List.set_cons_zero, List.set_cons_succ]
  refine wpAnyH_take (i := 7) (oi := { dst := some 74, op := _, type := _, pos := _, after := _, guard := _ }) (v := ?_) rfl (by kernel_rfl) (by kernel_rfl) (by kernel_rfl) (fun _ _ _ h => h) (Or.inl ⟨by rfl, ?_⟩) hHeld ?_
  rotate_left
  · (intro w hSw; obtain ⟨l1, k1⟩ := HK1.out _ hSw; have p0 := k1 0; have p1 := k1 1; obtain ⟨l2, k2⟩ := HK2.out _ hSw; have p2 := k2 0; have p3 := k2 1; obtain ⟨l3, k3⟩ := HK3.out _ hSw; have p4 := k3 0; have p5 := k3 1; simp at p0 p1 p2 p3 p4 p5; clear k1 k2 k3; go_simp <;> with_reducible rfl)
  try simp only [Act.put, List.setIfInBounds_toArray, List.set_cons_zero, List.set_cons_succ]
  refine wpAnyH_take (i := 8) (oi := { dst := some 75, op := _, type := _, pos := _, after := _, guard := _ }) (v := ?_) rfl (by kernel_rfl) (by kernel_rfl) (by kernel_rfl) (fun _ _ _ h => h) (Or.inl ⟨by rfl, ?_⟩) hHeld ?_
  rotate_left
  · (intro w hSw; obtain ⟨l1, k1⟩ := HK1.out _ hSw; have p0 := k1 0; have p1 := k1 1; obtain ⟨l2, k2⟩ := HK2.out _ hSw; have p2 := k2 0; have p3 := k2 1; obtain ⟨l3, k3⟩ := HK3.out _ hSw; have p4 := k3 0; have p5 := k3 1; simp at p0 p1 p2 p3 p4 p5; clear k1 k2 k3; go_simp <;> with_reducible rfl)
  try simp only [Act.put, List.setIfInBounds_toArray, List.set_cons_zero, List.set_cons_succ]
  refine wpAnyH_take (i := 9) (oi := { dst := some 76, op := _, type := _, pos := _, after := _, guard := _ }) (v := undef) rfl (by kernel_rfl) (by kernel_rfl) (by kernel_rfl) (fun _ _ _ h => h) (Or.inr ⟨by rfl, rfl⟩) hHeld ?_
  try simp only [Act.put, List.setIfInBounds_toArray, List.set_cons_zero, List.set_cons_succ]
  refine wpAnyH_take (i := 10) (oi := { dst := some 77, op := _, type := _, pos := _, after := _, guard := _ }) (v := undef) rfl (by kernel_rfl) (by kernel_rfl) (by kernel_rfl) (fun _ _ _ h => h) (Or.inr ⟨by rfl, rfl⟩) hHeld ?_
  try simp only [Act.put, List.setIfInBounds_toArray, List.set_cons_zero, List.set_cons_succ]
  refine wpAnyH_take (i := 11) (oi := { dst := some 78, op := _, type := _, pos := _, after := _, guard := _ }) (v := undef) rfl (by kernel_rfl) (by kernel_rfl) (by kernel_rfl) (fun _ _ _ h => h) (Or.inr ⟨by rfl, rfl⟩) hHeld ?_
  try simp only [Act.put, List.setIfInBounds_toArray, List.set_cons_zero, List.set_cons_succ]
  refine wpAnyH_take (i := 12) (oi := { dst := some 79, op := _, type := _, pos := _, after := _, guard := _ }) (v := undef) rfl (by kernel_rfl) (by kernel_rfl) (by kernel_rfl) (fun _ _ _ h => h) (Or.inr ⟨by rfl, rfl⟩) hHeld ?_
  try simp only [Act.put, List.setIfInBounds_toArray, List.set_cons_zero, List.set_cons_succ]
  refine wpAnyH_take (i := 13) (oi := { dst := some 80, op := _, type := _, pos := _, after := _, guard := _ }) (v := undef) rfl (by kernel_rfl) (by kernel_rfl) (by kernel_rfl) (fun _ _ _ h => h) (Or.inr ⟨by rfl, rfl⟩) hHeld ?_
  try simp only [Act.put, List.setIfInBounds_toArray, List.set_cons_zero, List.set_cons_succ]
  refine wpAnyH_take (i := 14) (oi := { dst := some 81, op := _, type := _, pos := _, after := _, guard := _ }) (v := undef) rfl (by kernel_rfl) (by kernel_rfl) (by kernel_rfl) (fun _ _ _ h => h) (Or.inr ⟨by rfl, rfl⟩) hHeld ?_
  try simp only [Act.put, List.setIfInBounds_toArray, List.set_cons_zero, List.set_cons_succ]
  refine wpAnyH_take (i := 15) (oi := { dst := some 82, op := _, type := _, pos := _, after := _, guard := _ }) (v := undef) rfl (by kernel_rfl) (by kernel_rfl) (by kernel_rfl) (fun _ _ _ h => h) (Or.inr ⟨by rfl, rfl⟩) hHeld ?_
  try simp only [Act.put, List.setIfInBounds_toArray, List.set_cons_zero, List.set_cons_succ]
  refine wpAnyH_take (i := 16) (oi := { dst := some 83, op := _, type := _, pos := _, after := _, guard := _ }) (v := ?_) rfl (by kernel_rfl) (by kernel_rfl) (by kernel_rfl) (fun _ _ _ h => h) (Or.inl ⟨by rfl, ?_⟩) hHeld ?_
  rotate_left
  · (intro w hSw; obtain ⟨l1, k1⟩ := HK1.out _ hSw; have p0 := k1 0; have p1 := k1 1; obtain ⟨l2, k2⟩ := HK2.out _ hSw; have p2 := k2 0; have p3 := k2 1; obtain ⟨l3, k3⟩ := HK3.out _ hSw; have p4 := k3 0; have p5 := k3 1; simp at p0 p1 p2 p3 p4 p5; clear k1 k2 k3; go_simp <;> with_reducible rfl)
  try simp only [Act.put, List.setIfInBounds_toArray, List.set_cons_zero, List.set_cons_succ]
  refine wpAnyH_done (by kernel_rfl) ?_ _
  have hBf := hB.trans (hHeld.mono hszU)
  have hsL := HSL.out _ hHeld
  have h1x := HPX.out _ hHeld
  clear HK1 HK2 HK3
  go_wp2_with fail
  refine (HT1.out _ _ _ h1x).mono ?_
  rintro e y1 ⟨rfl, hb⟩
  have hBf := since_step hBf hb
  have hsL := hsL.below hb
  have h1x := h1x.below hb
  clear hb
  go_wp2_with fail
  refine (HT2.out _ hsL).mono ?_
  rintro e y2 ⟨rfl, hb⟩
  have hBf := since_step hBf hb
  have hsL := hsL.below hb
  have h1x := h1x.below hb
  clear hb
  clear hsL
  go_wp2_with fail
  refine (HIS.out _ _ _ h1x).mono ?_
  rintro e y3 ⟨rfl, hb⟩
  have hBf := since_step hBf hb
  have h1x := h1x.below hb
  clear hb
  go_wp2_with fail
  refine (HLV.out _).mono ?_
  rintro e y4 ⟨rfl, hb⟩
  have hBf := since_step hBf hb
  have h1x := h1x.below hb
  clear hb
  go_wp2_with fail
  go_ret
  exact ⟨rfl, hBf⟩

set_option maxHeartbeats 16000000 in
set_option maxRecDepth 100000 in
theorem pmv_C11 (a0 : Option Addr) (n0 c0 : Nat) (L : List Fw) (fa fc ta tc oa oc m : Int) (w : World) (hL20 : L.length ≤ 20) (hLq : ∀ x ∈ L, Fw.in_ x) (hsL : Sl w a0 (rc Fw.cells L)) (hf : In64 fa ∧ In64 fc ∧ In64 ta ∧ In64 tc ∧ In64 m)
    (HF1 : Hid (∀ V, Below w.heap.size w V → Calls Try.prog 14 #[.slice a0 n0 c0] V fun e w' => e = .returned (.slice a0 L.length c0) ∧ Below V.heap.size V w')) (hm : m ≠ -9223372036854775808) (pn : Int) (PL : List Fw) (hPL : payR L [⟨fa, fc, -m⟩, ⟨ta, tc, m⟩] = (pn, PL)) (h0 : pn = 0) (hf1 : oa ≠ fa) (ht1 : oa ≠ ta) :
    Calls Try.prog 4 #[.slice a0 n0 c0, .agg #[.int .i64 fa, .int .i64 fc], .agg #[.int .i64 ta, .int .i64 tc], .agg #[.int .i64 oa, .int .i64 oc], .int .i64 m] w fun e w' => e = .returned (.bool true) ∧ Below w.heap.size w w' := by
  have hB := since_alloc (since_alloc (since_alloc (Below.refl _ w) (.cells #[.int .i64 fa, .int .i64 fc] 24)) (.cells #[.int .i64 ta, .int .i64 tc] 24)) (.cells #[.int .i64 oa, .int .i64 oc] 24)
  have HF1 := Lib.hid (HF1.out _ hB)
  have hK1 := ((Bk.new w #[.int .i64 fa, .int .i64 fc] 24).alloc (.cells #[.int .i64 ta, .int .i64 tc] 24)).alloc (.cells #[.int .i64 oa, .int .i64 oc] 24)
  have hK2 := (Bk.new (w.alloc (.cells #[.int .i64 fa, .int .i64 fc] 24)) #[.int .i64 ta, .int .i64 tc] 24).alloc (.cells #[.int .i64 oa, .int .i64 oc] 24)
  have hK3 := Bk.new ((w.alloc (.cells #[.int .i64 fa, .int .i64 fc] 24)).alloc (.cells #[.int .i64 ta, .int .i64 tc] 24)) #[.int .i64 oa, .int .i64 oc] 24
  rw [World.size_alloc] at hK2
  rw [World.size_alloc, World.size_alloc] at hK3
  have hsL := ((hsL.alloc (.cells #[.int .i64 fa, .int .i64 fc] 24)).alloc (.cells #[.int .i64 ta, .int .i64 tc] 24)).alloc (.cells #[.int .i64 oa, .int .i64 oc] 24)
  have HM := Lib.hid (fun V h => pmove_any a0 c0 L fa fc ta tc m V (by omega) hLq hf h)
  have HLV := Lib.hid (fun V => lives17_any V)
  have hm6 : In64 (-m) := by obtain ⟨_, _, _, _, h⟩ := hf; unfold In64 at *; omega
  rw [moveR_pay hm6] at HM
  have hall : ∀ x ∈ L ++ [(⟨fa, fc, -m⟩ : Fw), ⟨ta, tc, m⟩], Fw.in_ x := fun x hx => by
    rcases List.mem_append.1 hx with hx | hx
    · exact hLq x hx
    · rcases List.mem_cons.1 hx with rfl | hx
      · exact ⟨hf.1, hf.2.1, hm6⟩
      · obtain rfl : x = ⟨ta, tc, m⟩ := by simpa using hx
        exact ⟨hf.2.2.1, hf.2.2.2.1, hf.2.2.2.2⟩
  have HRP := Lib.hid (fun A V h1 h2 => rppay_any a0 A c0 2 L [⟨fa, fc, -m⟩, ⟨ta, tc, m⟩] V (by omega) (by simp) hall h1 h2)
  have hpl := payR_len L [⟨fa, fc, -m⟩, ⟨ta, tc, m⟩]
  rw [hPL] at HM HRP hpl
  have hpl2 : PL.length ≤ 22 := by simpa using Nat.le_trans hpl (by simp; omega)
  have hpl3 : PL.length ≤ 1000000 := by omega
  have HSM := Lib.hid (fun A A2 c c2 V h1 h2 => rpsame_any_self A A2 c c2 PL V hpl3 h1 h2)
  unfold PRes at HM HRP
  simp only [List.length_cons, List.length_nil] at HM HRP
  have hpn : (pn != pn) = false := by simp
  have hmb : (m == -9223372036854775808) = false := by simpa using hm
  have hwn : IntKind.i64.wrap (-m) = -m := IntWalk.i64_in _ hm6
  subst h0
  obtain ⟨q1, q2, q3⟩ := moved_facts hPL
  have hPLq : ∀ x ∈ PL, In64 x.amt := by
    intro x hx
    unfold payR at hPL
    split at hPL
    · cases hPL
    · split at hPL
      · cases hPL
      · rename_i hfit
        injection hPL with _ e
        subst e
        obtain ⟨⟨y, hy, e1, e2⟩, h2, _⟩ := (mem_purseOf _ _).1 hx
        have hfit : fitsU (L ++ [(⟨fa, fc, -m⟩ : Fw), ⟨ta, tc, m⟩]) = true := by simpa using hfit
        unfold fitsU at hfit
        rw [List.all_eq_true] at hfit
        rw [h2]
        exact (fitI_iff _).1 (hfit ⟨x.ac, x.cl⟩ ((mem_unitsU _ _).2 ⟨y, hy, e1, e2⟩))
  have hLA : ∀ y ∈ L, In64 y.amt := fun y hy => (hLq y hy).2.2
  have HT1 := Lib.hid (fun A c V h => ptotal_any A c PL V (by omega) hPLq h)
  have HT2 := Lib.hid (fun V h => ptotal_any a0 c0 L V (by omega) hLA h)
  rw [q1] at HT1
  have HIS := Lib.hid (fun A c V h => pis_any A c PL V hpl3 h)
  rw [q2] at HIS
  obtain ⟨th, hth⟩ : ∃ n, hiN (totF L) = n := ⟨_, rfl⟩
  obtain ⟨tl, htl⟩ : ∃ n, loN (totF L) = n := ⟨_, rfl⟩
  rw [hth, htl] at HT1 HT2
  have hq1 : (th == th) = true := by simp
  have hq2 : (tl == tl) = true := by simp
  have HG1 := Lib.hid (fun A c V h => pget_any A c PL oa oc V hpl3 h)
  have HG2 := Lib.hid (fun V h => pget_any a0 c0 L oa oc V (by omega) h)
  rw [q3 oa oc (fun h => hf1 h.1) (fun h => ht1 h.1)] at HG1
  obtain ⟨gt, hgt⟩ : ∃ n, getF L oa oc = n := ⟨_, rfl⟩
  rw [hgt] at HG1 HG2
  have hgn : (gt != gt) = false := by simp
  clear hgt
  clear q1 q2 q3 hPLq hLA hth htl
  have bf1 : (oa != fa) = true := by simpa using hf1
  have cf1 : (oa == fa) = false := by simpa using hf1
  clear hf1
  have bt1 : (oa != ta) = true := by simpa using ht1
  have ct1 : (oa == ta) = false := by simpa using ht1
  clear ht1
  clear hm hm6 hall hpl hpl3 hPL hLq hf hL20
  go_enter Try.func4, Try.ntmps4
  go_upto_region 1 with fail
  generalize hWW : ((w.alloc (.cells #[.int .i64 fa, .int .i64 fc] 24)).alloc (.cells #[.int .i64 ta, .int .i64 tc] 24)).alloc (.cells #[.int .i64 oa, .int .i64 oc] 24) = W at *
  clear hWW
  obtain ⟨hK1_l, hK1_c⟩ := id hK1
  have hK1_0 := hK1_c 0
  have hK1_1 := hK1_c 1
  simp at hK1_0 hK1_1
  clear hK1_c
  obtain ⟨hK2_l, hK2_c⟩ := id hK2
  have hK2_0 := hK2_c 0
  have hK2_1 := hK2_c 1
  simp at hK2_0 hK2_1
  clear hK2_c
  obtain ⟨hK3_l, hK3_c⟩ := id hK3
  have hK3_0 := hK3_c 0
  have hK3_1 := hK3_c 1
  simp at hK3_0 hK3_1
  clear hK3_c
  go_wp2_with fail
  refine HF1.out.mono ?_
  rintro e z1 ⟨rfl, hb⟩
  have hB := since_step hB hb
  have hK1 := hK1.below hb
  have hK2 := hK2.below hb
  have hK3 := hK3.below hb
  have hsL := hsL.below hb
  clear hb HF1
  clear hK1_l hK1_0 hK1_1 hK2_l hK2_0 hK2_1 hK3_l hK3_0 hK3_1
  obtain ⟨hK1_l, hK1_c⟩ := id hK1
  have hK1_0 := hK1_c 0
  have hK1_1 := hK1_c 1
  simp at hK1_0 hK1_1
  clear hK1_c
  obtain ⟨hK2_l, hK2_c⟩ := id hK2
  have hK2_0 := hK2_c 0
  have hK2_1 := hK2_c 1
  simp at hK2_0 hK2_1
  clear hK2_c
  obtain ⟨hK3_l, hK3_c⟩ := id hK3
  have hK3_0 := hK3_c 0
  have hK3_1 := hK3_c 1
  simp at hK3_0 hK3_1
  clear hK3_c
  go_wp2_with fail
  refine (HM.out _ hsL).mono ?_
  rintro e z2 ⟨⟨A1x, c1x, rfl, h1x⟩, hb⟩
  have hB := since_step hB hb
  have hK1 := hK1.below hb
  have hK2 := hK2.below hb
  have hK3 := hK3.below hb
  have hsL := hsL.below hb
  clear hb
  clear hK1_l hK1_0 hK1_1 hK2_l hK2_0 hK2_1 hK3_l hK3_0 hK3_1
  obtain ⟨hK1_l, hK1_c⟩ := id hK1
  have hK1_0 := hK1_c 0
  have hK1_1 := hK1_c 1
  simp at hK1_0 hK1_1
  clear hK1_c
  obtain ⟨hK2_l, hK2_c⟩ := id hK2
  have hK2_0 := hK2_c 0
  have hK2_1 := hK2_c 1
  simp at hK2_0 hK2_1
  clear hK2_c
  obtain ⟨hK3_l, hK3_c⟩ := id hK3
  have hK3_0 := hK3_c 0
  have hK3_1 := hK3_c 1
  simp at hK3_0 hK3_1
  clear hK3_c
  have hnw := Sl.new_ z2 (rc Fw.cells [⟨fa, fc, -m⟩, ⟨ta, tc, m⟩]) 48
  have hA := (Below.refl z2.heap.size z2).alloc (Nat.le_refl _) (.cells #[.int .i64 fa, .int .i64 fc, .int .i64 (-m), .int .i64 ta, .int .i64 tc, .int .i64 m] 48)
  go_wp2_with fail
  have hB := since_step hB hA
  have hK1 := hK1.below hA
  have hK2 := hK2.below hA
  have hK3 := hK3.below hA
  have hsL := hsL.below hA
  have h1x := h1x.below hA
  refine (HRP.out _ _ hsL hnw).mono ?_
  rintro e z3 ⟨⟨A2x, c2x, rfl, h2x⟩, hb⟩
  have hB := since_step hB hb
  have hK1 := hK1.below hb
  have hK2 := hK2.below hb
  have hK3 := hK3.below hb
  have hsL := hsL.below hb
  have h1x := h1x.below hb
  clear hb hA hnw
  clear hK1_l hK1_0 hK1_1 hK2_l hK2_0 hK2_1 hK3_l hK3_0 hK3_1
  obtain ⟨hK1_l, hK1_c⟩ := id hK1
  have hK1_0 := hK1_c 0
  have hK1_1 := hK1_c 1
  simp at hK1_0 hK1_1
  clear hK1_c
  obtain ⟨hK2_l, hK2_c⟩ := id hK2
  have hK2_0 := hK2_c 0
  have hK2_1 := hK2_c 1
  simp at hK2_0 hK2_1
  clear hK2_c
  obtain ⟨hK3_l, hK3_c⟩ := id hK3
  have hK3_0 := hK3_c 0
  have hK3_1 := hK3_c 1
  simp at hK3_0 hK3_1
  clear hK3_c
  go_wp2_with fail
  refine (HSM.out _ _ _ _ _ h1x h2x).mono ?_
  rintro e z4 ⟨rfl, hb⟩
  have hB := since_step hB hb
  have hK1 := hK1.below hb
  have hK2 := hK2.below hb
  have hK3 := hK3.below hb
  have hsL := hsL.below hb
  have h1x := h1x.below hb
  have h2x := h2x.below hb
  clear hb
  clear hK1_l hK1_0 hK1_1 hK2_l hK2_0 hK2_1 hK3_l hK3_0 hK3_1
  clear h2x
  obtain ⟨hK1_l, hK1_c⟩ := id hK1
  have hK1_0 := hK1_c 0
  have hK1_1 := hK1_c 1
  simp at hK1_0 hK1_1
  clear hK1_c
  obtain ⟨hK2_l, hK2_c⟩ := id hK2
  have hK2_0 := hK2_c 0
  have hK2_1 := hK2_c 1
  simp at hK2_0 hK2_1
  clear hK2_c
  obtain ⟨hK3_l, hK3_c⟩ := id hK3
  have hK3_0 := hK3_c 0
  have hK3_1 := hK3_c 1
  simp at hK3_0 hK3_1
  clear hK3_c
  go_upto_region 13 with fail
  skip
  clear hK1_l hK1_0 hK1_1 hK2_l hK2_0 hK2_1 hK3_l hK3_0 hK3_1
  have HK1 : Hid (∀ V, Below z4.heap.size z4 V → Bk V w.heap.size #[.int .i64 fa, .int .i64 fc]) := Lib.hid fun V h => hK1.below h
  have HK2 : Hid (∀ V, Below z4.heap.size z4 V → Bk V (w.heap.size + 1) #[.int .i64 ta, .int .i64 tc]) := Lib.hid fun V h => hK2.below h
  have HK3 : Hid (∀ V, Below z4.heap.size z4 V → Bk V (w.heap.size + 1 + 1) #[.int .i64 oa, .int .i64 oc]) := Lib.hid fun V h => hK3.below h
  have HSL : Hid (∀ V, Below z4.heap.size z4 V → Sl V a0 (rc Fw.cells L)) := Lib.hid fun V h => hsL.below h
  have HPX : Hid (∀ V, Below z4.heap.size z4 V → Sl V A1x (rc Fw.cells PL)) := Lib.hid fun V h => h1x.below h
  have hszU := hB.size
  clear hK1 hK2 hK3 hsL h1x
  go_wp2_with fail
  refine wp_region_held_drew (S := (fun V => Below z4.heap.size z4 V)) (by kernel_rfl) (by exact (Below.refl _ _).drew) (fun hHeld => ?_)
  refine wpAnyH_take (i := 0) (oi := { dst := some 67, op := _, type := _, pos := _, after := _, guard := _ }) (v := ?_) rfl (by kernel_rfl) (by kernel_rfl) (by kernel_rfl) (fun _ _ _ h => h) (Or.inl ⟨by rfl, ?_⟩) hHeld ?_
  rotate_left
  · (intro w hSw; obtain ⟨l1, k1⟩ := HK1.out _ hSw; have p0 := k1 0; have p1 := k1 1; obtain ⟨l2, k2⟩ := HK2.out _ hSw; have p2 := k2 0; have p3 := k2 1; obtain ⟨l3, k3⟩ := HK3.out _ hSw; have p4 := k3 0; have p5 := k3 1; simp at p0 p1 p2 p3 p4 p5; clear k1 k2 k3; go_simp <;> with_reducible rfl)
  try simp only [Act.put, List.setIfInBounds_toArray, List.set_cons_zero, List.set_cons_succ]
  refine wpAnyH_take (i := 1) (oi := { dst := some 68, op := _, type := _, pos := _, after := _, guard := _ }) (v := ?_) rfl (by kernel_rfl) (by kernel_rfl) (by kernel_rfl) (fun _ _ _ h => h) (Or.inl ⟨by rfl, ?_⟩) hHeld ?_
  rotate_left
  · (intro w hSw; obtain ⟨l1, k1⟩ := HK1.out _ hSw; have p0 := k1 0; have p1 := k1 1; obtain ⟨l2, k2⟩ := HK2.out _ hSw; have p2 := k2 0; have p3 := k2 1; obtain ⟨l3, k3⟩ := HK3.out _ hSw; have p4 := k3 0; have p5 := k3 1; simp at p0 p1 p2 p3 p4 p5; clear k1 k2 k3; go_simp <;> with_reducible rfl)
  try simp only [Act.put, List.setIfInBounds_toArray, List.set_cons_zero, List.set_cons_succ]
  refine wpAnyH_take (i := 2) (oi := { dst := some 69, op := _, type := _, pos := _, after := _, guard := _ }) (v := ?_) rfl (by kernel_rfl) (by kernel_rfl) (by kernel_rfl) (fun _ _ _ h => h) (Or.inl ⟨by rfl, ?_⟩) hHeld ?_
  rotate_left
  · (intro w hSw; obtain ⟨l1, k1⟩ := HK1.out _ hSw; have p0 := k1 0; have p1 := k1 1; obtain ⟨l2, k2⟩ := HK2.out _ hSw; have p2 := k2 0; have p3 := k2 1; obtain ⟨l3, k3⟩ := HK3.out _ hSw; have p4 := k3 0; have p5 := k3 1; simp at p0 p1 p2 p3 p4 p5; clear k1 k2 k3; go_simp <;> with_reducible rfl)
  try simp only [Act.put, List.setIfInBounds_toArray, List.set_cons_zero, List.set_cons_succ]
  refine wpAnyH_take (i := 3) (oi := { dst := some 70, op := _, type := _, pos := _, after := _, guard := _ }) (v := ?_) rfl (by kernel_rfl) (by kernel_rfl) (by kernel_rfl) (fun _ _ _ h => h) (Or.inl ⟨by rfl, ?_⟩) hHeld ?_
  rotate_left
  · (intro w hSw; obtain ⟨l1, k1⟩ := HK1.out _ hSw; have p0 := k1 0; have p1 := k1 1; obtain ⟨l2, k2⟩ := HK2.out _ hSw; have p2 := k2 0; have p3 := k2 1; obtain ⟨l3, k3⟩ := HK3.out _ hSw; have p4 := k3 0; have p5 := k3 1; simp at p0 p1 p2 p3 p4 p5; clear k1 k2 k3; go_simp <;> with_reducible rfl)
  try simp only [Act.put, List.setIfInBounds_toArray, List.set_cons_zero, List.set_cons_succ]
  refine wpAnyH_take (i := 4) (oi := { dst := some 71, op := _, type := _, pos := _, after := _, guard := _ }) (v := ?_) rfl (by kernel_rfl) (by kernel_rfl) (by kernel_rfl) (fun _ _ _ h => h) (Or.inl ⟨by rfl, ?_⟩) hHeld ?_
  rotate_left
  · (intro w hSw; obtain ⟨l1, k1⟩ := HK1.out _ hSw; have p0 := k1 0; have p1 := k1 1; obtain ⟨l2, k2⟩ := HK2.out _ hSw; have p2 := k2 0; have p3 := k2 1; obtain ⟨l3, k3⟩ := HK3.out _ hSw; have p4 := k3 0; have p5 := k3 1; simp at p0 p1 p2 p3 p4 p5; clear k1 k2 k3; go_simp <;> with_reducible rfl)
  try simp only [Act.put, List.setIfInBounds_toArray, List.set_cons_zero, List.set_cons_succ]
  refine wpAnyH_take (i := 5) (oi := { dst := some 72, op := _, type := _, pos := _, after := _, guard := _ }) (v := ?_) rfl (by kernel_rfl) (by kernel_rfl) (by kernel_rfl) (fun _ _ _ h => h) (Or.inl ⟨by rfl, ?_⟩) hHeld ?_
  rotate_left
  · (intro w hSw; obtain ⟨l1, k1⟩ := HK1.out _ hSw; have p0 := k1 0; have p1 := k1 1; obtain ⟨l2, k2⟩ := HK2.out _ hSw; have p2 := k2 0; have p3 := k2 1; obtain ⟨l3, k3⟩ := HK3.out _ hSw; have p4 := k3 0; have p5 := k3 1; simp at p0 p1 p2 p3 p4 p5; clear k1 k2 k3; go_simp <;> with_reducible rfl)
  try simp only [Act.put, List.setIfInBounds_toArray, List.set_cons_zero, List.set_cons_succ]
  refine wpAnyH_take (i := 6) (oi := { dst := some 73, op := _, type := _, pos := _, after := _, guard := _ }) (v := ?_) rfl (by kernel_rfl) (by kernel_rfl) (by kernel_rfl) (fun _ _ _ h => h) (Or.inl ⟨by rfl, ?_⟩) hHeld ?_
  rotate_left
  · (intro w hSw; obtain ⟨l1, k1⟩ := HK1.out _ hSw; have p0 := k1 0; have p1 := k1 1; obtain ⟨l2, k2⟩ := HK2.out _ hSw; have p2 := k2 0; have p3 := k2 1; obtain ⟨l3, k3⟩ := HK3.out _ hSw; have p4 := k3 0; have p5 := k3 1; simp at p0 p1 p2 p3 p4 p5; clear k1 k2 k3; go_simp <;> with_reducible rfl)
  try simp only [Act.put, List.setIfInBounds_toArray, List.set_cons_zero, List.set_cons_succ]
  refine wpAnyH_take (i := 7) (oi := { dst := some 74, op := _, type := _, pos := _, after := _, guard := _ }) (v := ?_) rfl (by kernel_rfl) (by kernel_rfl) (by kernel_rfl) (fun _ _ _ h => h) (Or.inl ⟨by rfl, ?_⟩) hHeld ?_
  rotate_left
  · (intro w hSw; obtain ⟨l1, k1⟩ := HK1.out _ hSw; have p0 := k1 0; have p1 := k1 1; obtain ⟨l2, k2⟩ := HK2.out _ hSw; have p2 := k2 0; have p3 := k2 1; obtain ⟨l3, k3⟩ := HK3.out _ hSw; have p4 := k3 0; have p5 := k3 1; simp at p0 p1 p2 p3 p4 p5; clear k1 k2 k3; go_simp <;> with_reducible rfl)
  try simp only [Act.put, List.setIfInBounds_toArray, List.set_cons_zero, List.set_cons_succ]
  refine wpAnyH_take (i := 8) (oi := { dst := some 75, op := _, type := _, pos := _, after := _, guard := _ }) (v := ?_) rfl (by kernel_rfl) (by kernel_rfl) (by kernel_rfl) (fun _ _ _ h => h) (Or.inl ⟨by rfl, ?_⟩) hHeld ?_
  rotate_left
  · (intro w hSw; obtain ⟨l1, k1⟩ := HK1.out _ hSw; have p0 := k1 0; have p1 := k1 1; obtain ⟨l2, k2⟩ := HK2.out _ hSw; have p2 := k2 0; have p3 := k2 1; obtain ⟨l3, k3⟩ := HK3.out _ hSw; have p4 := k3 0; have p5 := k3 1; simp at p0 p1 p2 p3 p4 p5; clear k1 k2 k3; go_simp <;> with_reducible rfl)
  try simp only [Act.put, List.setIfInBounds_toArray, List.set_cons_zero, List.set_cons_succ]
  refine wpAnyH_take (i := 9) (oi := { dst := some 76, op := _, type := _, pos := _, after := _, guard := _ }) (v := ?_) rfl (by kernel_rfl) (by kernel_rfl) (by kernel_rfl) (fun _ _ _ h => h) (Or.inl ⟨by rfl, ?_⟩) hHeld ?_
  rotate_left
  · (intro w hSw; obtain ⟨l1, k1⟩ := HK1.out _ hSw; have p0 := k1 0; have p1 := k1 1; obtain ⟨l2, k2⟩ := HK2.out _ hSw; have p2 := k2 0; have p3 := k2 1; obtain ⟨l3, k3⟩ := HK3.out _ hSw; have p4 := k3 0; have p5 := k3 1; simp at p0 p1 p2 p3 p4 p5; clear k1 k2 k3; go_simp <;> with_reducible rfl)
  try simp only [Act.put, List.setIfInBounds_toArray, List.set_cons_zero, List.set_cons_succ]
  refine wpAnyH_take (i := 10) (oi := { dst := some 77, op := _, type := _, pos := _, after := _, guard := _ }) (v := ?_) rfl (by kernel_rfl) (by kernel_rfl) (by kernel_rfl) (fun _ _ _ h => h) (Or.inl ⟨by rfl, ?_⟩) hHeld ?_
  rotate_left
  · (intro w hSw; obtain ⟨l1, k1⟩ := HK1.out _ hSw; have p0 := k1 0; have p1 := k1 1; obtain ⟨l2, k2⟩ := HK2.out _ hSw; have p2 := k2 0; have p3 := k2 1; obtain ⟨l3, k3⟩ := HK3.out _ hSw; have p4 := k3 0; have p5 := k3 1; simp at p0 p1 p2 p3 p4 p5; clear k1 k2 k3; go_simp <;> with_reducible rfl)
  try simp only [Act.put, List.setIfInBounds_toArray, List.set_cons_zero, List.set_cons_succ]
  refine wpAnyH_take (i := 12) (oi := { dst := some 79, op := _, type := _, pos := _, after := _, guard := _ }) (v := ?_) rfl (by kernel_rfl) (by kernel_rfl) (by kernel_rfl) (fun _ _ _ h => h) (Or.inl ⟨by rfl, ?_⟩) hHeld ?_
  rotate_left
  · (intro w hSw; obtain ⟨l1, k1⟩ := HK1.out _ hSw; have p0 := k1 0; have p1 := k1 1; obtain ⟨l2, k2⟩ := HK2.out _ hSw; have p2 := k2 0; have p3 := k2 1; obtain ⟨l3, k3⟩ := HK3.out _ hSw; have p4 := k3 0; have p5 := k3 1; simp at p0 p1 p2 p3 p4 p5; clear k1 k2 k3; go_simp <;> with_reducible rfl)
  try simp only [Act.put, List.setIfInBounds_toArray, List.set_cons_zero, List.set_cons_succ]
  refine wpAnyH_take (i := 13) (oi := { dst := some 80, op := _, type := _, pos := _, after := _, guard := _ }) (v := ?_) rfl (by kernel_rfl) (by kernel_rfl) (by kernel_rfl) (fun _ _ _ h => h) (Or.inl ⟨by rfl, ?_⟩) hHeld ?_
  rotate_left
  · (intro w hSw; obtain ⟨l1, k1⟩ := HK1.out _ hSw; have p0 := k1 0; have p1 := k1 1; obtain ⟨l2, k2⟩ := HK2.out _ hSw; have p2 := k2 0; have p3 := k2 1; obtain ⟨l3, k3⟩ := HK3.out _ hSw; have p4 := k3 0; have p5 := k3 1; simp at p0 p1 p2 p3 p4 p5; clear k1 k2 k3; go_simp <;> with_reducible rfl)
  try simp only [Act.put, List.setIfInBounds_toArray, List.set_cons_zero, List.set_cons_succ]
  refine wpAnyH_ready (rs := [11]) (by kernel_rfl) (by simp) ?_
  refine AllReadyH.cons (o := { dst := some 78, op := _, type := _, pos := _, after := _, guard := _ }) rfl (fun K hK => ?_) AllReadyH.nil
  go_simp
  refine (HG1.out _ _ _ (HPX.out _ hHeld)).mono ?_
  rintro e x1 ⟨rfl, hk1⟩
  have hKeep := since_step hHeld hk1
  go_wp2_with fail
  refine hK.out _ _ (by (try dsimp only); exact hKeep) (fun hHeld => ?_)
  clear hK K hKeep
  try simp only [Act.put, List.setIfInBounds_toArray, List.set_cons_zero, List.set_cons_succ]
  refine wpAnyH_ready (rs := [14]) (by kernel_rfl) (by simp) ?_
  refine AllReadyH.cons (o := { dst := some 81, op := _, type := _, pos := _, after := _, guard := _ }) rfl (fun K hK => ?_) AllReadyH.nil
  go_simp
  refine (HG2.out _ (HSL.out _ hHeld)).mono ?_
  rintro e x2 ⟨rfl, hk2⟩
  have hKeep := since_step hHeld hk2
  go_wp2_with fail
  refine hK.out _ _ (by (try dsimp only); exact hKeep) (fun hHeld => ?_)
  clear hK K hKeep
  try simp only [Act.put, List.setIfInBounds_toArray, List.set_cons_zero, List.set_cons_succ]
  refine wpAnyH_take (i := 15) (oi := { dst := some 82, op := _, type := _, pos := _, after := _, guard := _ }) (v := ?_) rfl (by kernel_rfl) (by kernel_rfl) (by kernel_rfl) (fun _ _ _ h => h) (Or.inl ⟨by rfl, ?_⟩) hHeld ?_
  rotate_left
  · (intro w hSw; obtain ⟨l1, k1⟩ := HK1.out _ hSw; have p0 := k1 0; have p1 := k1 1; obtain ⟨l2, k2⟩ := HK2.out _ hSw; have p2 := k2 0; have p3 := k2 1; obtain ⟨l3, k3⟩ := HK3.out _ hSw; have p4 := k3 0; have p5 := k3 1; simp at p0 p1 p2 p3 p4 p5; clear k1 k2 k3; go_simp <;> with_reducible rfl)
  try simp only [Act.put, List.setIfInBounds_toArray, List.set_cons_zero, List.set_cons_succ]
  refine wpAnyH_take (i := 16) (oi := { dst := some 83, op := _, type := _, pos := _, after := _, guard := _ }) (v := ?_) rfl (by kernel_rfl) (by kernel_rfl) (by kernel_rfl) (fun _ _ _ h => h) (Or.inl ⟨by rfl, ?_⟩) hHeld ?_
  rotate_left
  · (intro w hSw; obtain ⟨l1, k1⟩ := HK1.out _ hSw; have p0 := k1 0; have p1 := k1 1; obtain ⟨l2, k2⟩ := HK2.out _ hSw; have p2 := k2 0; have p3 := k2 1; obtain ⟨l3, k3⟩ := HK3.out _ hSw; have p4 := k3 0; have p5 := k3 1; simp at p0 p1 p2 p3 p4 p5; clear k1 k2 k3; go_simp <;> with_reducible rfl)
  try simp only [Act.put, List.setIfInBounds_toArray, List.set_cons_zero, List.set_cons_succ]
  refine wpAnyH_done (by kernel_rfl) ?_ _
  have hBf := hB.trans (hHeld.mono hszU)
  have hsL := HSL.out _ hHeld
  have h1x := HPX.out _ hHeld
  clear HK1 HK2 HK3
  go_wp2_with fail
  refine (HT1.out _ _ _ h1x).mono ?_
  rintro e y1 ⟨rfl, hb⟩
  have hBf := since_step hBf hb
  have hsL := hsL.below hb
  have h1x := h1x.below hb
  clear hb
  go_wp2_with fail
  refine (HT2.out _ hsL).mono ?_
  rintro e y2 ⟨rfl, hb⟩
  have hBf := since_step hBf hb
  have hsL := hsL.below hb
  have h1x := h1x.below hb
  clear hb
  clear hsL
  go_wp2_with fail
  refine (HIS.out _ _ _ h1x).mono ?_
  rintro e y3 ⟨rfl, hb⟩
  have hBf := since_step hBf hb
  have h1x := h1x.below hb
  clear hb
  go_wp2_with fail
  refine (HLV.out _).mono ?_
  rintro e y4 ⟨rfl, hb⟩
  have hBf := since_step hBf hb
  have h1x := h1x.below hb
  clear hb
  go_wp2_with fail
  go_ret
  exact ⟨rfl, hBf⟩

set_option maxHeartbeats 16000000 in
set_option maxRecDepth 100000 in
theorem pmv_C12 (a0 : Option Addr) (n0 c0 : Nat) (L : List Fw) (fa fc ta tc oa oc m : Int) (w : World) (hL20 : L.length ≤ 20) (hLq : ∀ x ∈ L, Fw.in_ x) (hsL : Sl w a0 (rc Fw.cells L)) (hf : In64 fa ∧ In64 fc ∧ In64 ta ∧ In64 tc ∧ In64 m)
    (HF1 : Hid (∀ V, Below w.heap.size w V → Calls Try.prog 14 #[.slice a0 n0 c0] V fun e w' => e = .returned (.slice a0 L.length c0) ∧ Below V.heap.size V w')) (hm : m ≠ -9223372036854775808) (pn : Int) (PL : List Fw) (hPL : payR L [⟨fa, fc, -m⟩, ⟨ta, tc, m⟩] = (pn, PL)) (h0 : pn = 0) (hf1 : oa ≠ fa) (ht1 : oa = ta) (ht2 : oc ≠ tc) :
    Calls Try.prog 4 #[.slice a0 n0 c0, .agg #[.int .i64 fa, .int .i64 fc], .agg #[.int .i64 ta, .int .i64 tc], .agg #[.int .i64 oa, .int .i64 oc], .int .i64 m] w fun e w' => e = .returned (.bool true) ∧ Below w.heap.size w w' := by
  have hB := since_alloc (since_alloc (since_alloc (Below.refl _ w) (.cells #[.int .i64 fa, .int .i64 fc] 24)) (.cells #[.int .i64 ta, .int .i64 tc] 24)) (.cells #[.int .i64 oa, .int .i64 oc] 24)
  have HF1 := Lib.hid (HF1.out _ hB)
  have hK1 := ((Bk.new w #[.int .i64 fa, .int .i64 fc] 24).alloc (.cells #[.int .i64 ta, .int .i64 tc] 24)).alloc (.cells #[.int .i64 oa, .int .i64 oc] 24)
  have hK2 := (Bk.new (w.alloc (.cells #[.int .i64 fa, .int .i64 fc] 24)) #[.int .i64 ta, .int .i64 tc] 24).alloc (.cells #[.int .i64 oa, .int .i64 oc] 24)
  have hK3 := Bk.new ((w.alloc (.cells #[.int .i64 fa, .int .i64 fc] 24)).alloc (.cells #[.int .i64 ta, .int .i64 tc] 24)) #[.int .i64 oa, .int .i64 oc] 24
  rw [World.size_alloc] at hK2
  rw [World.size_alloc, World.size_alloc] at hK3
  have hsL := ((hsL.alloc (.cells #[.int .i64 fa, .int .i64 fc] 24)).alloc (.cells #[.int .i64 ta, .int .i64 tc] 24)).alloc (.cells #[.int .i64 oa, .int .i64 oc] 24)
  have HM := Lib.hid (fun V h => pmove_any a0 c0 L fa fc ta tc m V (by omega) hLq hf h)
  have HLV := Lib.hid (fun V => lives17_any V)
  have hm6 : In64 (-m) := by obtain ⟨_, _, _, _, h⟩ := hf; unfold In64 at *; omega
  rw [moveR_pay hm6] at HM
  have hall : ∀ x ∈ L ++ [(⟨fa, fc, -m⟩ : Fw), ⟨ta, tc, m⟩], Fw.in_ x := fun x hx => by
    rcases List.mem_append.1 hx with hx | hx
    · exact hLq x hx
    · rcases List.mem_cons.1 hx with rfl | hx
      · exact ⟨hf.1, hf.2.1, hm6⟩
      · obtain rfl : x = ⟨ta, tc, m⟩ := by simpa using hx
        exact ⟨hf.2.2.1, hf.2.2.2.1, hf.2.2.2.2⟩
  have HRP := Lib.hid (fun A V h1 h2 => rppay_any a0 A c0 2 L [⟨fa, fc, -m⟩, ⟨ta, tc, m⟩] V (by omega) (by simp) hall h1 h2)
  have hpl := payR_len L [⟨fa, fc, -m⟩, ⟨ta, tc, m⟩]
  rw [hPL] at HM HRP hpl
  have hpl2 : PL.length ≤ 22 := by simpa using Nat.le_trans hpl (by simp; omega)
  have hpl3 : PL.length ≤ 1000000 := by omega
  have HSM := Lib.hid (fun A A2 c c2 V h1 h2 => rpsame_any_self A A2 c c2 PL V hpl3 h1 h2)
  unfold PRes at HM HRP
  simp only [List.length_cons, List.length_nil] at HM HRP
  have hpn : (pn != pn) = false := by simp
  have hmb : (m == -9223372036854775808) = false := by simpa using hm
  have hwn : IntKind.i64.wrap (-m) = -m := IntWalk.i64_in _ hm6
  subst h0
  obtain ⟨q1, q2, q3⟩ := moved_facts hPL
  have hPLq : ∀ x ∈ PL, In64 x.amt := by
    intro x hx
    unfold payR at hPL
    split at hPL
    · cases hPL
    · split at hPL
      · cases hPL
      · rename_i hfit
        injection hPL with _ e
        subst e
        obtain ⟨⟨y, hy, e1, e2⟩, h2, _⟩ := (mem_purseOf _ _).1 hx
        have hfit : fitsU (L ++ [(⟨fa, fc, -m⟩ : Fw), ⟨ta, tc, m⟩]) = true := by simpa using hfit
        unfold fitsU at hfit
        rw [List.all_eq_true] at hfit
        rw [h2]
        exact (fitI_iff _).1 (hfit ⟨x.ac, x.cl⟩ ((mem_unitsU _ _).2 ⟨y, hy, e1, e2⟩))
  have hLA : ∀ y ∈ L, In64 y.amt := fun y hy => (hLq y hy).2.2
  have HT1 := Lib.hid (fun A c V h => ptotal_any A c PL V (by omega) hPLq h)
  have HT2 := Lib.hid (fun V h => ptotal_any a0 c0 L V (by omega) hLA h)
  rw [q1] at HT1
  have HIS := Lib.hid (fun A c V h => pis_any A c PL V hpl3 h)
  rw [q2] at HIS
  obtain ⟨th, hth⟩ : ∃ n, hiN (totF L) = n := ⟨_, rfl⟩
  obtain ⟨tl, htl⟩ : ∃ n, loN (totF L) = n := ⟨_, rfl⟩
  rw [hth, htl] at HT1 HT2
  have hq1 : (th == th) = true := by simp
  have hq2 : (tl == tl) = true := by simp
  have HG1 := Lib.hid (fun A c V h => pget_any A c PL oa oc V hpl3 h)
  have HG2 := Lib.hid (fun V h => pget_any a0 c0 L oa oc V (by omega) h)
  rw [q3 oa oc (fun h => hf1 h.1) (fun h => ht2 h.2)] at HG1
  obtain ⟨gt, hgt⟩ : ∃ n, getF L oa oc = n := ⟨_, rfl⟩
  rw [hgt] at HG1 HG2
  have hgn : (gt != gt) = false := by simp
  clear hgt
  clear q1 q2 q3 hPLq hLA hth htl
  have bf1 : (oa != fa) = true := by simpa using hf1
  have cf1 : (oa == fa) = false := by simpa using hf1
  clear hf1
  have bt1 : (oa != ta) = false := by rw [ht1]; simp
  have bt2 : (oc != tc) = true := by simpa using ht2
  have ct1 : (oa == ta) = true := by rw [ht1]; simp
  have ct2 : (oc == tc) = false := by simpa using ht2
  clear ht1 ht2
  clear hm hm6 hall hpl hpl3 hPL hLq hf hL20
  go_enter Try.func4, Try.ntmps4
  go_upto_region 1 with fail
  generalize hWW : ((w.alloc (.cells #[.int .i64 fa, .int .i64 fc] 24)).alloc (.cells #[.int .i64 ta, .int .i64 tc] 24)).alloc (.cells #[.int .i64 oa, .int .i64 oc] 24) = W at *
  clear hWW
  obtain ⟨hK1_l, hK1_c⟩ := id hK1
  have hK1_0 := hK1_c 0
  have hK1_1 := hK1_c 1
  simp at hK1_0 hK1_1
  clear hK1_c
  obtain ⟨hK2_l, hK2_c⟩ := id hK2
  have hK2_0 := hK2_c 0
  have hK2_1 := hK2_c 1
  simp at hK2_0 hK2_1
  clear hK2_c
  obtain ⟨hK3_l, hK3_c⟩ := id hK3
  have hK3_0 := hK3_c 0
  have hK3_1 := hK3_c 1
  simp at hK3_0 hK3_1
  clear hK3_c
  go_wp2_with fail
  refine HF1.out.mono ?_
  rintro e z1 ⟨rfl, hb⟩
  have hB := since_step hB hb
  have hK1 := hK1.below hb
  have hK2 := hK2.below hb
  have hK3 := hK3.below hb
  have hsL := hsL.below hb
  clear hb HF1
  clear hK1_l hK1_0 hK1_1 hK2_l hK2_0 hK2_1 hK3_l hK3_0 hK3_1
  obtain ⟨hK1_l, hK1_c⟩ := id hK1
  have hK1_0 := hK1_c 0
  have hK1_1 := hK1_c 1
  simp at hK1_0 hK1_1
  clear hK1_c
  obtain ⟨hK2_l, hK2_c⟩ := id hK2
  have hK2_0 := hK2_c 0
  have hK2_1 := hK2_c 1
  simp at hK2_0 hK2_1
  clear hK2_c
  obtain ⟨hK3_l, hK3_c⟩ := id hK3
  have hK3_0 := hK3_c 0
  have hK3_1 := hK3_c 1
  simp at hK3_0 hK3_1
  clear hK3_c
  go_wp2_with fail
  refine (HM.out _ hsL).mono ?_
  rintro e z2 ⟨⟨A1x, c1x, rfl, h1x⟩, hb⟩
  have hB := since_step hB hb
  have hK1 := hK1.below hb
  have hK2 := hK2.below hb
  have hK3 := hK3.below hb
  have hsL := hsL.below hb
  clear hb
  clear hK1_l hK1_0 hK1_1 hK2_l hK2_0 hK2_1 hK3_l hK3_0 hK3_1
  obtain ⟨hK1_l, hK1_c⟩ := id hK1
  have hK1_0 := hK1_c 0
  have hK1_1 := hK1_c 1
  simp at hK1_0 hK1_1
  clear hK1_c
  obtain ⟨hK2_l, hK2_c⟩ := id hK2
  have hK2_0 := hK2_c 0
  have hK2_1 := hK2_c 1
  simp at hK2_0 hK2_1
  clear hK2_c
  obtain ⟨hK3_l, hK3_c⟩ := id hK3
  have hK3_0 := hK3_c 0
  have hK3_1 := hK3_c 1
  simp at hK3_0 hK3_1
  clear hK3_c
  have hnw := Sl.new_ z2 (rc Fw.cells [⟨fa, fc, -m⟩, ⟨ta, tc, m⟩]) 48
  have hA := (Below.refl z2.heap.size z2).alloc (Nat.le_refl _) (.cells #[.int .i64 fa, .int .i64 fc, .int .i64 (-m), .int .i64 ta, .int .i64 tc, .int .i64 m] 48)
  go_wp2_with fail
  have hB := since_step hB hA
  have hK1 := hK1.below hA
  have hK2 := hK2.below hA
  have hK3 := hK3.below hA
  have hsL := hsL.below hA
  have h1x := h1x.below hA
  refine (HRP.out _ _ hsL hnw).mono ?_
  rintro e z3 ⟨⟨A2x, c2x, rfl, h2x⟩, hb⟩
  have hB := since_step hB hb
  have hK1 := hK1.below hb
  have hK2 := hK2.below hb
  have hK3 := hK3.below hb
  have hsL := hsL.below hb
  have h1x := h1x.below hb
  clear hb hA hnw
  clear hK1_l hK1_0 hK1_1 hK2_l hK2_0 hK2_1 hK3_l hK3_0 hK3_1
  obtain ⟨hK1_l, hK1_c⟩ := id hK1
  have hK1_0 := hK1_c 0
  have hK1_1 := hK1_c 1
  simp at hK1_0 hK1_1
  clear hK1_c
  obtain ⟨hK2_l, hK2_c⟩ := id hK2
  have hK2_0 := hK2_c 0
  have hK2_1 := hK2_c 1
  simp at hK2_0 hK2_1
  clear hK2_c
  obtain ⟨hK3_l, hK3_c⟩ := id hK3
  have hK3_0 := hK3_c 0
  have hK3_1 := hK3_c 1
  simp at hK3_0 hK3_1
  clear hK3_c
  go_wp2_with fail
  refine (HSM.out _ _ _ _ _ h1x h2x).mono ?_
  rintro e z4 ⟨rfl, hb⟩
  have hB := since_step hB hb
  have hK1 := hK1.below hb
  have hK2 := hK2.below hb
  have hK3 := hK3.below hb
  have hsL := hsL.below hb
  have h1x := h1x.below hb
  have h2x := h2x.below hb
  clear hb
  clear hK1_l hK1_0 hK1_1 hK2_l hK2_0 hK2_1 hK3_l hK3_0 hK3_1
  clear h2x
  obtain ⟨hK1_l, hK1_c⟩ := id hK1
  have hK1_0 := hK1_c 0
  have hK1_1 := hK1_c 1
  simp at hK1_0 hK1_1
  clear hK1_c
  obtain ⟨hK2_l, hK2_c⟩ := id hK2
  have hK2_0 := hK2_c 0
  have hK2_1 := hK2_c 1
  simp at hK2_0 hK2_1
  clear hK2_c
  obtain ⟨hK3_l, hK3_c⟩ := id hK3
  have hK3_0 := hK3_c 0
  have hK3_1 := hK3_c 1
  simp at hK3_0 hK3_1
  clear hK3_c
  go_upto_region 13 with fail
  skip
  clear hK1_l hK1_0 hK1_1 hK2_l hK2_0 hK2_1 hK3_l hK3_0 hK3_1
  have HK1 : Hid (∀ V, Below z4.heap.size z4 V → Bk V w.heap.size #[.int .i64 fa, .int .i64 fc]) := Lib.hid fun V h => hK1.below h
  have HK2 : Hid (∀ V, Below z4.heap.size z4 V → Bk V (w.heap.size + 1) #[.int .i64 ta, .int .i64 tc]) := Lib.hid fun V h => hK2.below h
  have HK3 : Hid (∀ V, Below z4.heap.size z4 V → Bk V (w.heap.size + 1 + 1) #[.int .i64 oa, .int .i64 oc]) := Lib.hid fun V h => hK3.below h
  have HSL : Hid (∀ V, Below z4.heap.size z4 V → Sl V a0 (rc Fw.cells L)) := Lib.hid fun V h => hsL.below h
  have HPX : Hid (∀ V, Below z4.heap.size z4 V → Sl V A1x (rc Fw.cells PL)) := Lib.hid fun V h => h1x.below h
  have hszU := hB.size
  clear hK1 hK2 hK3 hsL h1x
  go_wp2_with fail
  refine wp_region_held_drew (S := (fun V => Below z4.heap.size z4 V)) (by kernel_rfl) (by exact (Below.refl _ _).drew) (fun hHeld => ?_)
  refine wpAnyH_take (i := 0) (oi := { dst := some 67, op := _, type := _, pos := _, after := _, guard := _ }) (v := ?_) rfl (by kernel_rfl) (by kernel_rfl) (by kernel_rfl) (fun _ _ _ h => h) (Or.inl ⟨by rfl, ?_⟩) hHeld ?_
  rotate_left
  · (intro w hSw; obtain ⟨l1, k1⟩ := HK1.out _ hSw; have p0 := k1 0; have p1 := k1 1; obtain ⟨l2, k2⟩ := HK2.out _ hSw; have p2 := k2 0; have p3 := k2 1; obtain ⟨l3, k3⟩ := HK3.out _ hSw; have p4 := k3 0; have p5 := k3 1; simp at p0 p1 p2 p3 p4 p5; clear k1 k2 k3; go_simp <;> with_reducible rfl)
  try simp only [Act.put, List.setIfInBounds_toArray, List.set_cons_zero, List.set_cons_succ]
  refine wpAnyH_take (i := 1) (oi := { dst := some 68, op := _, type := _, pos := _, after := _, guard := _ }) (v := ?_) rfl (by kernel_rfl) (by kernel_rfl) (by kernel_rfl) (fun _ _ _ h => h) (Or.inl ⟨by rfl, ?_⟩) hHeld ?_
  rotate_left
  · (intro w hSw; obtain ⟨l1, k1⟩ := HK1.out _ hSw; have p0 := k1 0; have p1 := k1 1; obtain ⟨l2, k2⟩ := HK2.out _ hSw; have p2 := k2 0; have p3 := k2 1; obtain ⟨l3, k3⟩ := HK3.out _ hSw; have p4 := k3 0; have p5 := k3 1; simp at p0 p1 p2 p3 p4 p5; clear k1 k2 k3; go_simp <;> with_reducible rfl)
  try simp only [Act.put, List.setIfInBounds_toArray, List.set_cons_zero, List.set_cons_succ]
  refine wpAnyH_take (i := 2) (oi := { dst := some 69, op := _, type := _, pos := _, after := _, guard := _ }) (v := ?_) rfl (by kernel_rfl) (by kernel_rfl) (by kernel_rfl) (fun _ _ _ h => h) (Or.inl ⟨by rfl, ?_⟩) hHeld ?_
  rotate_left
  · (intro w hSw; obtain ⟨l1, k1⟩ := HK1.out _ hSw; have p0 := k1 0; have p1 := k1 1; obtain ⟨l2, k2⟩ := HK2.out _ hSw; have p2 := k2 0; have p3 := k2 1; obtain ⟨l3, k3⟩ := HK3.out _ hSw; have p4 := k3 0; have p5 := k3 1; simp at p0 p1 p2 p3 p4 p5; clear k1 k2 k3; go_simp <;> with_reducible rfl)
  try simp only [Act.put, List.setIfInBounds_toArray, List.set_cons_zero, List.set_cons_succ]
  refine wpAnyH_take (i := 3) (oi := { dst := some 70, op := _, type := _, pos := _, after := _, guard := _ }) (v := ?_) rfl (by kernel_rfl) (by kernel_rfl) (by kernel_rfl) (fun _ _ _ h => h) (Or.inl ⟨by rfl, ?_⟩) hHeld ?_
  rotate_left
  · (intro w hSw; obtain ⟨l1, k1⟩ := HK1.out _ hSw; have p0 := k1 0; have p1 := k1 1; obtain ⟨l2, k2⟩ := HK2.out _ hSw; have p2 := k2 0; have p3 := k2 1; obtain ⟨l3, k3⟩ := HK3.out _ hSw; have p4 := k3 0; have p5 := k3 1; simp at p0 p1 p2 p3 p4 p5; clear k1 k2 k3; go_simp <;> with_reducible rfl)
  try simp only [Act.put, List.setIfInBounds_toArray, List.set_cons_zero, List.set_cons_succ]
  refine wpAnyH_take (i := 4) (oi := { dst := some 71, op := _, type := _, pos := _, after := _, guard := _ }) (v := ?_) rfl (by kernel_rfl) (by kernel_rfl) (by kernel_rfl) (fun _ _ _ h => h) (Or.inl ⟨by rfl, ?_⟩) hHeld ?_
  rotate_left
  · (intro w hSw; obtain ⟨l1, k1⟩ := HK1.out _ hSw; have p0 := k1 0; have p1 := k1 1; obtain ⟨l2, k2⟩ := HK2.out _ hSw; have p2 := k2 0; have p3 := k2 1; obtain ⟨l3, k3⟩ := HK3.out _ hSw; have p4 := k3 0; have p5 := k3 1; simp at p0 p1 p2 p3 p4 p5; clear k1 k2 k3; go_simp <;> with_reducible rfl)
  try simp only [Act.put, List.setIfInBounds_toArray, List.set_cons_zero, List.set_cons_succ]
  refine wpAnyH_take (i := 5) (oi := { dst := some 72, op := _, type := _, pos := _, after := _, guard := _ }) (v := ?_) rfl (by kernel_rfl) (by kernel_rfl) (by kernel_rfl) (fun _ _ _ h => h) (Or.inl ⟨by rfl, ?_⟩) hHeld ?_
  rotate_left
  · (intro w hSw; obtain ⟨l1, k1⟩ := HK1.out _ hSw; have p0 := k1 0; have p1 := k1 1; obtain ⟨l2, k2⟩ := HK2.out _ hSw; have p2 := k2 0; have p3 := k2 1; obtain ⟨l3, k3⟩ := HK3.out _ hSw; have p4 := k3 0; have p5 := k3 1; simp at p0 p1 p2 p3 p4 p5; clear k1 k2 k3; go_simp <;> with_reducible rfl)
  try simp only [Act.put, List.setIfInBounds_toArray, List.set_cons_zero, List.set_cons_succ]
  refine wpAnyH_take (i := 6) (oi := { dst := some 73, op := _, type := _, pos := _, after := _, guard := _ }) (v := ?_) rfl (by kernel_rfl) (by kernel_rfl) (by kernel_rfl) (fun _ _ _ h => h) (Or.inl ⟨by rfl, ?_⟩) hHeld ?_
  rotate_left
  · (intro w hSw; obtain ⟨l1, k1⟩ := HK1.out _ hSw; have p0 := k1 0; have p1 := k1 1; obtain ⟨l2, k2⟩ := HK2.out _ hSw; have p2 := k2 0; have p3 := k2 1; obtain ⟨l3, k3⟩ := HK3.out _ hSw; have p4 := k3 0; have p5 := k3 1; simp at p0 p1 p2 p3 p4 p5; clear k1 k2 k3; go_simp <;> with_reducible rfl)
  try simp only [Act.put, List.setIfInBounds_toArray, List.set_cons_zero, List.set_cons_succ]
  refine wpAnyH_take (i := 7) (oi := { dst := some 74, op := _, type := _, pos := _, after := _, guard := _ }) (v := ?_) rfl (by kernel_rfl) (by kernel_rfl) (by kernel_rfl) (fun _ _ _ h => h) (Or.inl ⟨by rfl, ?_⟩) hHeld ?_
  rotate_left
  · (intro w hSw; obtain ⟨l1, k1⟩ := HK1.out _ hSw; have p0 := k1 0; have p1 := k1 1; obtain ⟨l2, k2⟩ := HK2.out _ hSw; have p2 := k2 0; have p3 := k2 1; obtain ⟨l3, k3⟩ := HK3.out _ hSw; have p4 := k3 0; have p5 := k3 1; simp at p0 p1 p2 p3 p4 p5; clear k1 k2 k3; go_simp <;> with_reducible rfl)
  try simp only [Act.put, List.setIfInBounds_toArray, List.set_cons_zero, List.set_cons_succ]
  refine wpAnyH_take (i := 8) (oi := { dst := some 75, op := _, type := _, pos := _, after := _, guard := _ }) (v := ?_) rfl (by kernel_rfl) (by kernel_rfl) (by kernel_rfl) (fun _ _ _ h => h) (Or.inl ⟨by rfl, ?_⟩) hHeld ?_
  rotate_left
  · (intro w hSw; obtain ⟨l1, k1⟩ := HK1.out _ hSw; have p0 := k1 0; have p1 := k1 1; obtain ⟨l2, k2⟩ := HK2.out _ hSw; have p2 := k2 0; have p3 := k2 1; obtain ⟨l3, k3⟩ := HK3.out _ hSw; have p4 := k3 0; have p5 := k3 1; simp at p0 p1 p2 p3 p4 p5; clear k1 k2 k3; go_simp <;> with_reducible rfl)
  try simp only [Act.put, List.setIfInBounds_toArray, List.set_cons_zero, List.set_cons_succ]
  refine wpAnyH_take (i := 9) (oi := { dst := some 76, op := _, type := _, pos := _, after := _, guard := _ }) (v := ?_) rfl (by kernel_rfl) (by kernel_rfl) (by kernel_rfl) (fun _ _ _ h => h) (Or.inl ⟨by rfl, ?_⟩) hHeld ?_
  rotate_left
  · (intro w hSw; obtain ⟨l1, k1⟩ := HK1.out _ hSw; have p0 := k1 0; have p1 := k1 1; obtain ⟨l2, k2⟩ := HK2.out _ hSw; have p2 := k2 0; have p3 := k2 1; obtain ⟨l3, k3⟩ := HK3.out _ hSw; have p4 := k3 0; have p5 := k3 1; simp at p0 p1 p2 p3 p4 p5; clear k1 k2 k3; go_simp <;> with_reducible rfl)
  try simp only [Act.put, List.setIfInBounds_toArray, List.set_cons_zero, List.set_cons_succ]
  refine wpAnyH_take (i := 10) (oi := { dst := some 77, op := _, type := _, pos := _, after := _, guard := _ }) (v := ?_) rfl (by kernel_rfl) (by kernel_rfl) (by kernel_rfl) (fun _ _ _ h => h) (Or.inl ⟨by rfl, ?_⟩) hHeld ?_
  rotate_left
  · (intro w hSw; obtain ⟨l1, k1⟩ := HK1.out _ hSw; have p0 := k1 0; have p1 := k1 1; obtain ⟨l2, k2⟩ := HK2.out _ hSw; have p2 := k2 0; have p3 := k2 1; obtain ⟨l3, k3⟩ := HK3.out _ hSw; have p4 := k3 0; have p5 := k3 1; simp at p0 p1 p2 p3 p4 p5; clear k1 k2 k3; go_simp <;> with_reducible rfl)
  try simp only [Act.put, List.setIfInBounds_toArray, List.set_cons_zero, List.set_cons_succ]
  refine wpAnyH_take (i := 12) (oi := { dst := some 79, op := _, type := _, pos := _, after := _, guard := _ }) (v := ?_) rfl (by kernel_rfl) (by kernel_rfl) (by kernel_rfl) (fun _ _ _ h => h) (Or.inl ⟨by rfl, ?_⟩) hHeld ?_
  rotate_left
  · (intro w hSw; obtain ⟨l1, k1⟩ := HK1.out _ hSw; have p0 := k1 0; have p1 := k1 1; obtain ⟨l2, k2⟩ := HK2.out _ hSw; have p2 := k2 0; have p3 := k2 1; obtain ⟨l3, k3⟩ := HK3.out _ hSw; have p4 := k3 0; have p5 := k3 1; simp at p0 p1 p2 p3 p4 p5; clear k1 k2 k3; go_simp <;> with_reducible rfl)
  try simp only [Act.put, List.setIfInBounds_toArray, List.set_cons_zero, List.set_cons_succ]
  refine wpAnyH_take (i := 13) (oi := { dst := some 80, op := _, type := _, pos := _, after := _, guard := _ }) (v := ?_) rfl (by kernel_rfl) (by kernel_rfl) (by kernel_rfl) (fun _ _ _ h => h) (Or.inl ⟨by rfl, ?_⟩) hHeld ?_
  rotate_left
  · (intro w hSw; obtain ⟨l1, k1⟩ := HK1.out _ hSw; have p0 := k1 0; have p1 := k1 1; obtain ⟨l2, k2⟩ := HK2.out _ hSw; have p2 := k2 0; have p3 := k2 1; obtain ⟨l3, k3⟩ := HK3.out _ hSw; have p4 := k3 0; have p5 := k3 1; simp at p0 p1 p2 p3 p4 p5; clear k1 k2 k3; go_simp <;> with_reducible rfl)
  try simp only [Act.put, List.setIfInBounds_toArray, List.set_cons_zero, List.set_cons_succ]
  refine wpAnyH_ready (rs := [11]) (by kernel_rfl) (by simp) ?_
  refine AllReadyH.cons (o := { dst := some 78, op := _, type := _, pos := _, after := _, guard := _ }) rfl (fun K hK => ?_) AllReadyH.nil
  go_simp
  refine (HG1.out _ _ _ (HPX.out _ hHeld)).mono ?_
  rintro e x1 ⟨rfl, hk1⟩
  have hKeep := since_step hHeld hk1
  go_wp2_with fail
  refine hK.out _ _ (by (try dsimp only); exact hKeep) (fun hHeld => ?_)
  clear hK K hKeep
  try simp only [Act.put, List.setIfInBounds_toArray, List.set_cons_zero, List.set_cons_succ]
  refine wpAnyH_ready (rs := [14]) (by kernel_rfl) (by simp) ?_
  refine AllReadyH.cons (o := { dst := some 81, op := _, type := _, pos := _, after := _, guard := _ }) rfl (fun K hK => ?_) AllReadyH.nil
  go_simp
  refine (HG2.out _ (HSL.out _ hHeld)).mono ?_
  rintro e x2 ⟨rfl, hk2⟩
  have hKeep := since_step hHeld hk2
  go_wp2_with fail
  refine hK.out _ _ (by (try dsimp only); exact hKeep) (fun hHeld => ?_)
  clear hK K hKeep
  try simp only [Act.put, List.setIfInBounds_toArray, List.set_cons_zero, List.set_cons_succ]
  refine wpAnyH_take (i := 15) (oi := { dst := some 82, op := _, type := _, pos := _, after := _, guard := _ }) (v := ?_) rfl (by kernel_rfl) (by kernel_rfl) (by kernel_rfl) (fun _ _ _ h => h) (Or.inl ⟨by rfl, ?_⟩) hHeld ?_
  rotate_left
  · (intro w hSw; obtain ⟨l1, k1⟩ := HK1.out _ hSw; have p0 := k1 0; have p1 := k1 1; obtain ⟨l2, k2⟩ := HK2.out _ hSw; have p2 := k2 0; have p3 := k2 1; obtain ⟨l3, k3⟩ := HK3.out _ hSw; have p4 := k3 0; have p5 := k3 1; simp at p0 p1 p2 p3 p4 p5; clear k1 k2 k3; go_simp <;> with_reducible rfl)
  try simp only [Act.put, List.setIfInBounds_toArray, List.set_cons_zero, List.set_cons_succ]
  refine wpAnyH_take (i := 16) (oi := { dst := some 83, op := _, type := _, pos := _, after := _, guard := _ }) (v := ?_) rfl (by kernel_rfl) (by kernel_rfl) (by kernel_rfl) (fun _ _ _ h => h) (Or.inl ⟨by rfl, ?_⟩) hHeld ?_
  rotate_left
  · (intro w hSw; obtain ⟨l1, k1⟩ := HK1.out _ hSw; have p0 := k1 0; have p1 := k1 1; obtain ⟨l2, k2⟩ := HK2.out _ hSw; have p2 := k2 0; have p3 := k2 1; obtain ⟨l3, k3⟩ := HK3.out _ hSw; have p4 := k3 0; have p5 := k3 1; simp at p0 p1 p2 p3 p4 p5; clear k1 k2 k3; go_simp <;> with_reducible rfl)
  try simp only [Act.put, List.setIfInBounds_toArray, List.set_cons_zero, List.set_cons_succ]
  refine wpAnyH_done (by kernel_rfl) ?_ _
  have hBf := hB.trans (hHeld.mono hszU)
  have hsL := HSL.out _ hHeld
  have h1x := HPX.out _ hHeld
  clear HK1 HK2 HK3
  go_wp2_with fail
  refine (HT1.out _ _ _ h1x).mono ?_
  rintro e y1 ⟨rfl, hb⟩
  have hBf := since_step hBf hb
  have hsL := hsL.below hb
  have h1x := h1x.below hb
  clear hb
  go_wp2_with fail
  refine (HT2.out _ hsL).mono ?_
  rintro e y2 ⟨rfl, hb⟩
  have hBf := since_step hBf hb
  have hsL := hsL.below hb
  have h1x := h1x.below hb
  clear hb
  clear hsL
  go_wp2_with fail
  refine (HIS.out _ _ _ h1x).mono ?_
  rintro e y3 ⟨rfl, hb⟩
  have hBf := since_step hBf hb
  have h1x := h1x.below hb
  clear hb
  go_wp2_with fail
  refine (HLV.out _).mono ?_
  rintro e y4 ⟨rfl, hb⟩
  have hBf := since_step hBf hb
  have h1x := h1x.below hb
  clear hb
  go_wp2_with fail
  go_ret
  exact ⟨rfl, hBf⟩

set_option maxHeartbeats 16000000 in
set_option maxRecDepth 100000 in
theorem pmv_C21 (a0 : Option Addr) (n0 c0 : Nat) (L : List Fw) (fa fc ta tc oa oc m : Int) (w : World) (hL20 : L.length ≤ 20) (hLq : ∀ x ∈ L, Fw.in_ x) (hsL : Sl w a0 (rc Fw.cells L)) (hf : In64 fa ∧ In64 fc ∧ In64 ta ∧ In64 tc ∧ In64 m)
    (HF1 : Hid (∀ V, Below w.heap.size w V → Calls Try.prog 14 #[.slice a0 n0 c0] V fun e w' => e = .returned (.slice a0 L.length c0) ∧ Below V.heap.size V w')) (hm : m ≠ -9223372036854775808) (pn : Int) (PL : List Fw) (hPL : payR L [⟨fa, fc, -m⟩, ⟨ta, tc, m⟩] = (pn, PL)) (h0 : pn = 0) (hf1 : oa = fa) (hf2 : oc ≠ fc) (ht1 : oa ≠ ta) :
    Calls Try.prog 4 #[.slice a0 n0 c0, .agg #[.int .i64 fa, .int .i64 fc], .agg #[.int .i64 ta, .int .i64 tc], .agg #[.int .i64 oa, .int .i64 oc], .int .i64 m] w fun e w' => e = .returned (.bool true) ∧ Below w.heap.size w w' := by
  have hB := since_alloc (since_alloc (since_alloc (Below.refl _ w) (.cells #[.int .i64 fa, .int .i64 fc] 24)) (.cells #[.int .i64 ta, .int .i64 tc] 24)) (.cells #[.int .i64 oa, .int .i64 oc] 24)
  have HF1 := Lib.hid (HF1.out _ hB)
  have hK1 := ((Bk.new w #[.int .i64 fa, .int .i64 fc] 24).alloc (.cells #[.int .i64 ta, .int .i64 tc] 24)).alloc (.cells #[.int .i64 oa, .int .i64 oc] 24)
  have hK2 := (Bk.new (w.alloc (.cells #[.int .i64 fa, .int .i64 fc] 24)) #[.int .i64 ta, .int .i64 tc] 24).alloc (.cells #[.int .i64 oa, .int .i64 oc] 24)
  have hK3 := Bk.new ((w.alloc (.cells #[.int .i64 fa, .int .i64 fc] 24)).alloc (.cells #[.int .i64 ta, .int .i64 tc] 24)) #[.int .i64 oa, .int .i64 oc] 24
  rw [World.size_alloc] at hK2
  rw [World.size_alloc, World.size_alloc] at hK3
  have hsL := ((hsL.alloc (.cells #[.int .i64 fa, .int .i64 fc] 24)).alloc (.cells #[.int .i64 ta, .int .i64 tc] 24)).alloc (.cells #[.int .i64 oa, .int .i64 oc] 24)
  have HM := Lib.hid (fun V h => pmove_any a0 c0 L fa fc ta tc m V (by omega) hLq hf h)
  have HLV := Lib.hid (fun V => lives17_any V)
  have hm6 : In64 (-m) := by obtain ⟨_, _, _, _, h⟩ := hf; unfold In64 at *; omega
  rw [moveR_pay hm6] at HM
  have hall : ∀ x ∈ L ++ [(⟨fa, fc, -m⟩ : Fw), ⟨ta, tc, m⟩], Fw.in_ x := fun x hx => by
    rcases List.mem_append.1 hx with hx | hx
    · exact hLq x hx
    · rcases List.mem_cons.1 hx with rfl | hx
      · exact ⟨hf.1, hf.2.1, hm6⟩
      · obtain rfl : x = ⟨ta, tc, m⟩ := by simpa using hx
        exact ⟨hf.2.2.1, hf.2.2.2.1, hf.2.2.2.2⟩
  have HRP := Lib.hid (fun A V h1 h2 => rppay_any a0 A c0 2 L [⟨fa, fc, -m⟩, ⟨ta, tc, m⟩] V (by omega) (by simp) hall h1 h2)
  have hpl := payR_len L [⟨fa, fc, -m⟩, ⟨ta, tc, m⟩]
  rw [hPL] at HM HRP hpl
  have hpl2 : PL.length ≤ 22 := by simpa using Nat.le_trans hpl (by simp; omega)
  have hpl3 : PL.length ≤ 1000000 := by omega
  have HSM := Lib.hid (fun A A2 c c2 V h1 h2 => rpsame_any_self A A2 c c2 PL V hpl3 h1 h2)
  unfold PRes at HM HRP
  simp only [List.length_cons, List.length_nil] at HM HRP
  have hpn : (pn != pn) = false := by simp
  have hmb : (m == -9223372036854775808) = false := by simpa using hm
  have hwn : IntKind.i64.wrap (-m) = -m := IntWalk.i64_in _ hm6
  subst h0
  obtain ⟨q1, q2, q3⟩ := moved_facts hPL
  have hPLq : ∀ x ∈ PL, In64 x.amt := by
    intro x hx
    unfold payR at hPL
    split at hPL
    · cases hPL
    · split at hPL
      · cases hPL
      · rename_i hfit
        injection hPL with _ e
        subst e
        obtain ⟨⟨y, hy, e1, e2⟩, h2, _⟩ := (mem_purseOf _ _).1 hx
        have hfit : fitsU (L ++ [(⟨fa, fc, -m⟩ : Fw), ⟨ta, tc, m⟩]) = true := by simpa using hfit
        unfold fitsU at hfit
        rw [List.all_eq_true] at hfit
        rw [h2]
        exact (fitI_iff _).1 (hfit ⟨x.ac, x.cl⟩ ((mem_unitsU _ _).2 ⟨y, hy, e1, e2⟩))
  have hLA : ∀ y ∈ L, In64 y.amt := fun y hy => (hLq y hy).2.2
  have HT1 := Lib.hid (fun A c V h => ptotal_any A c PL V (by omega) hPLq h)
  have HT2 := Lib.hid (fun V h => ptotal_any a0 c0 L V (by omega) hLA h)
  rw [q1] at HT1
  have HIS := Lib.hid (fun A c V h => pis_any A c PL V hpl3 h)
  rw [q2] at HIS
  obtain ⟨th, hth⟩ : ∃ n, hiN (totF L) = n := ⟨_, rfl⟩
  obtain ⟨tl, htl⟩ : ∃ n, loN (totF L) = n := ⟨_, rfl⟩
  rw [hth, htl] at HT1 HT2
  have hq1 : (th == th) = true := by simp
  have hq2 : (tl == tl) = true := by simp
  have HG1 := Lib.hid (fun A c V h => pget_any A c PL oa oc V hpl3 h)
  have HG2 := Lib.hid (fun V h => pget_any a0 c0 L oa oc V (by omega) h)
  rw [q3 oa oc (fun h => hf2 h.2) (fun h => ht1 h.1)] at HG1
  obtain ⟨gt, hgt⟩ : ∃ n, getF L oa oc = n := ⟨_, rfl⟩
  rw [hgt] at HG1 HG2
  have hgn : (gt != gt) = false := by simp
  clear hgt
  clear q1 q2 q3 hPLq hLA hth htl
  have bf1 : (oa != fa) = false := by rw [hf1]; simp
  have bf2 : (oc != fc) = true := by simpa using hf2
  have cf1 : (oa == fa) = true := by rw [hf1]; simp
  have cf2 : (oc == fc) = false := by simpa using hf2
  clear hf1 hf2
  have bt1 : (oa != ta) = true := by simpa using ht1
  have ct1 : (oa == ta) = false := by simpa using ht1
  clear ht1
  clear hm hm6 hall hpl hpl3 hPL hLq hf hL20
  go_enter Try.func4, Try.ntmps4
  go_upto_region 1 with fail
  generalize hWW : ((w.alloc (.cells #[.int .i64 fa, .int .i64 fc] 24)).alloc (.cells #[.int .i64 ta, .int .i64 tc] 24)).alloc (.cells #[.int .i64 oa, .int .i64 oc] 24) = W at *
  clear hWW
  obtain ⟨hK1_l, hK1_c⟩ := id hK1
  have hK1_0 := hK1_c 0
  have hK1_1 := hK1_c 1
  simp at hK1_0 hK1_1
  clear hK1_c
  obtain ⟨hK2_l, hK2_c⟩ := id hK2
  have hK2_0 := hK2_c 0
  have hK2_1 := hK2_c 1
  simp at hK2_0 hK2_1
  clear hK2_c
  obtain ⟨hK3_l, hK3_c⟩ := id hK3
  have hK3_0 := hK3_c 0
  have hK3_1 := hK3_c 1
  simp at hK3_0 hK3_1
  clear hK3_c
  go_wp2_with fail
  refine HF1.out.mono ?_
  rintro e z1 ⟨rfl, hb⟩
  have hB := since_step hB hb
  have hK1 := hK1.below hb
  have hK2 := hK2.below hb
  have hK3 := hK3.below hb
  have hsL := hsL.below hb
  clear hb HF1
  clear hK1_l hK1_0 hK1_1 hK2_l hK2_0 hK2_1 hK3_l hK3_0 hK3_1
  obtain ⟨hK1_l, hK1_c⟩ := id hK1
  have hK1_0 := hK1_c 0
  have hK1_1 := hK1_c 1
  simp at hK1_0 hK1_1
  clear hK1_c
  obtain ⟨hK2_l, hK2_c⟩ := id hK2
  have hK2_0 := hK2_c 0
  have hK2_1 := hK2_c 1
  simp at hK2_0 hK2_1
  clear hK2_c
  obtain ⟨hK3_l, hK3_c⟩ := id hK3
  have hK3_0 := hK3_c 0
  have hK3_1 := hK3_c 1
  simp at hK3_0 hK3_1
  clear hK3_c
  go_wp2_with fail
  refine (HM.out _ hsL).mono ?_
  rintro e z2 ⟨⟨A1x, c1x, rfl, h1x⟩, hb⟩
  have hB := since_step hB hb
  have hK1 := hK1.below hb
  have hK2 := hK2.below hb
  have hK3 := hK3.below hb
  have hsL := hsL.below hb
  clear hb
  clear hK1_l hK1_0 hK1_1 hK2_l hK2_0 hK2_1 hK3_l hK3_0 hK3_1
  obtain ⟨hK1_l, hK1_c⟩ := id hK1
  have hK1_0 := hK1_c 0
  have hK1_1 := hK1_c 1
  simp at hK1_0 hK1_1
  clear hK1_c
  obtain ⟨hK2_l, hK2_c⟩ := id hK2
  have hK2_0 := hK2_c 0
  have hK2_1 := hK2_c 1
  simp at hK2_0 hK2_1
  clear hK2_c
  obtain ⟨hK3_l, hK3_c⟩ := id hK3
  have hK3_0 := hK3_c 0
  have hK3_1 := hK3_c 1
  simp at hK3_0 hK3_1
  clear hK3_c
  have hnw := Sl.new_ z2 (rc Fw.cells [⟨fa, fc, -m⟩, ⟨ta, tc, m⟩]) 48
  have hA := (Below.refl z2.heap.size z2).alloc (Nat.le_refl _) (.cells #[.int .i64 fa, .int .i64 fc, .int .i64 (-m), .int .i64 ta, .int .i64 tc, .int .i64 m] 48)
  go_wp2_with fail
  have hB := since_step hB hA
  have hK1 := hK1.below hA
  have hK2 := hK2.below hA
  have hK3 := hK3.below hA
  have hsL := hsL.below hA
  have h1x := h1x.below hA
  refine (HRP.out _ _ hsL hnw).mono ?_
  rintro e z3 ⟨⟨A2x, c2x, rfl, h2x⟩, hb⟩
  have hB := since_step hB hb
  have hK1 := hK1.below hb
  have hK2 := hK2.below hb
  have hK3 := hK3.below hb
  have hsL := hsL.below hb
  have h1x := h1x.below hb
  clear hb hA hnw
  clear hK1_l hK1_0 hK1_1 hK2_l hK2_0 hK2_1 hK3_l hK3_0 hK3_1
  obtain ⟨hK1_l, hK1_c⟩ := id hK1
  have hK1_0 := hK1_c 0
  have hK1_1 := hK1_c 1
  simp at hK1_0 hK1_1
  clear hK1_c
  obtain ⟨hK2_l, hK2_c⟩ := id hK2
  have hK2_0 := hK2_c 0
  have hK2_1 := hK2_c 1
  simp at hK2_0 hK2_1
  clear hK2_c
  obtain ⟨hK3_l, hK3_c⟩ := id hK3
  have hK3_0 := hK3_c 0
  have hK3_1 := hK3_c 1
  simp at hK3_0 hK3_1
  clear hK3_c
  go_wp2_with fail
  refine (HSM.out _ _ _ _ _ h1x h2x).mono ?_
  rintro e z4 ⟨rfl, hb⟩
  have hB := since_step hB hb
  have hK1 := hK1.below hb
  have hK2 := hK2.below hb
  have hK3 := hK3.below hb
  have hsL := hsL.below hb
  have h1x := h1x.below hb
  have h2x := h2x.below hb
  clear hb
  clear hK1_l hK1_0 hK1_1 hK2_l hK2_0 hK2_1 hK3_l hK3_0 hK3_1
  clear h2x
  obtain ⟨hK1_l, hK1_c⟩ := id hK1
  have hK1_0 := hK1_c 0
  have hK1_1 := hK1_c 1
  simp at hK1_0 hK1_1
  clear hK1_c
  obtain ⟨hK2_l, hK2_c⟩ := id hK2
  have hK2_0 := hK2_c 0
  have hK2_1 := hK2_c 1
  simp at hK2_0 hK2_1
  clear hK2_c
  obtain ⟨hK3_l, hK3_c⟩ := id hK3
  have hK3_0 := hK3_c 0
  have hK3_1 := hK3_c 1
  simp at hK3_0 hK3_1
  clear hK3_c
  go_upto_region 13 with fail
  skip
  clear hK1_l hK1_0 hK1_1 hK2_l hK2_0 hK2_1 hK3_l hK3_0 hK3_1
  have HK1 : Hid (∀ V, Below z4.heap.size z4 V → Bk V w.heap.size #[.int .i64 fa, .int .i64 fc]) := Lib.hid fun V h => hK1.below h
  have HK2 : Hid (∀ V, Below z4.heap.size z4 V → Bk V (w.heap.size + 1) #[.int .i64 ta, .int .i64 tc]) := Lib.hid fun V h => hK2.below h
  have HK3 : Hid (∀ V, Below z4.heap.size z4 V → Bk V (w.heap.size + 1 + 1) #[.int .i64 oa, .int .i64 oc]) := Lib.hid fun V h => hK3.below h
  have HSL : Hid (∀ V, Below z4.heap.size z4 V → Sl V a0 (rc Fw.cells L)) := Lib.hid fun V h => hsL.below h
  have HPX : Hid (∀ V, Below z4.heap.size z4 V → Sl V A1x (rc Fw.cells PL)) := Lib.hid fun V h => h1x.below h
  have hszU := hB.size
  clear hK1 hK2 hK3 hsL h1x
  go_wp2_with fail
  refine wp_region_held_drew (S := (fun V => Below z4.heap.size z4 V)) (by kernel_rfl) (by exact (Below.refl _ _).drew) (fun hHeld => ?_)
  refine wpAnyH_take (i := 0) (oi := { dst := some 67, op := _, type := _, pos := _, after := _, guard := _ }) (v := ?_) rfl (by kernel_rfl) (by kernel_rfl) (by kernel_rfl) (fun _ _ _ h => h) (Or.inl ⟨by rfl, ?_⟩) hHeld ?_
  rotate_left
  · (intro w hSw; obtain ⟨l1, k1⟩ := HK1.out _ hSw; have p0 := k1 0; have p1 := k1 1; obtain ⟨l2, k2⟩ := HK2.out _ hSw; have p2 := k2 0; have p3 := k2 1; obtain ⟨l3, k3⟩ := HK3.out _ hSw; have p4 := k3 0; have p5 := k3 1; simp at p0 p1 p2 p3 p4 p5; clear k1 k2 k3; go_simp <;> with_reducible rfl)
  try simp only [Act.put, List.setIfInBounds_toArray, List.set_cons_zero, List.set_cons_succ]
  refine wpAnyH_take (i := 1) (oi := { dst := some 68, op := _, type := _, pos := _, after := _, guard := _ }) (v := ?_) rfl (by kernel_rfl) (by kernel_rfl) (by kernel_rfl) (fun _ _ _ h => h) (Or.inl ⟨by rfl, ?_⟩) hHeld ?_
  rotate_left
  · (intro w hSw; obtain ⟨l1, k1⟩ := HK1.out _ hSw; have p0 := k1 0; have p1 := k1 1; obtain ⟨l2, k2⟩ := HK2.out _ hSw; have p2 := k2 0; have p3 := k2 1; obtain ⟨l3, k3⟩ := HK3.out _ hSw; have p4 := k3 0; have p5 := k3 1; simp at p0 p1 p2 p3 p4 p5; clear k1 k2 k3; go_simp <;> with_reducible rfl)
  try simp only [Act.put, List.setIfInBounds_toArray, List.set_cons_zero, List.set_cons_succ]
  refine wpAnyH_take (i := 2) (oi := { dst := some 69, op := _, type := _, pos := _, after := _, guard := _ }) (v := ?_) rfl (by kernel_rfl) (by kernel_rfl) (by kernel_rfl) (fun _ _ _ h => h) (Or.inl ⟨by rfl, ?_⟩) hHeld ?_
  rotate_left
  · (intro w hSw; obtain ⟨l1, k1⟩ := HK1.out _ hSw; have p0 := k1 0; have p1 := k1 1; obtain ⟨l2, k2⟩ := HK2.out _ hSw; have p2 := k2 0; have p3 := k2 1; obtain ⟨l3, k3⟩ := HK3.out _ hSw; have p4 := k3 0; have p5 := k3 1; simp at p0 p1 p2 p3 p4 p5; clear k1 k2 k3; go_simp <;> with_reducible rfl)
  try simp only [Act.put, List.setIfInBounds_toArray, List.set_cons_zero, List.set_cons_succ]
  refine wpAnyH_take (i := 3) (oi := { dst := some 70, op := _, type := _, pos := _, after := _, guard := _ }) (v := ?_) rfl (by kernel_rfl) (by kernel_rfl) (by kernel_rfl) (fun _ _ _ h => h) (Or.inl ⟨by rfl, ?_⟩) hHeld ?_
  rotate_left
  · (intro w hSw; obtain ⟨l1, k1⟩ := HK1.out _ hSw; have p0 := k1 0; have p1 := k1 1; obtain ⟨l2, k2⟩ := HK2.out _ hSw; have p2 := k2 0; have p3 := k2 1; obtain ⟨l3, k3⟩ := HK3.out _ hSw; have p4 := k3 0; have p5 := k3 1; simp at p0 p1 p2 p3 p4 p5; clear k1 k2 k3; go_simp <;> with_reducible rfl)
  try simp only [Act.put, List.setIfInBounds_toArray, List.set_cons_zero, List.set_cons_succ]
  refine wpAnyH_take (i := 4) (oi := { dst := some 71, op := _, type := _, pos := _, after := _, guard := _ }) (v := ?_) rfl (by kernel_rfl) (by kernel_rfl) (by kernel_rfl) (fun _ _ _ h => h) (Or.inl ⟨by rfl, ?_⟩) hHeld ?_
  rotate_left
  · (intro w hSw; obtain ⟨l1, k1⟩ := HK1.out _ hSw; have p0 := k1 0; have p1 := k1 1; obtain ⟨l2, k2⟩ := HK2.out _ hSw; have p2 := k2 0; have p3 := k2 1; obtain ⟨l3, k3⟩ := HK3.out _ hSw; have p4 := k3 0; have p5 := k3 1; simp at p0 p1 p2 p3 p4 p5; clear k1 k2 k3; go_simp <;> with_reducible rfl)
  try simp only [Act.put, List.setIfInBounds_toArray, List.set_cons_zero, List.set_cons_succ]
  refine wpAnyH_take (i := 5) (oi := { dst := some 72, op := _, type := _, pos := _, after := _, guard := _ }) (v := ?_) rfl (by kernel_rfl) (by kernel_rfl) (by kernel_rfl) (fun _ _ _ h => h) (Or.inl ⟨by rfl, ?_⟩) hHeld ?_
  rotate_left
  · (intro w hSw; obtain ⟨l1, k1⟩ := HK1.out _ hSw; have p0 := k1 0; have p1 := k1 1; obtain ⟨l2, k2⟩ := HK2.out _ hSw; have p2 := k2 0; have p3 := k2 1; obtain ⟨l3, k3⟩ := HK3.out _ hSw; have p4 := k3 0; have p5 := k3 1; simp at p0 p1 p2 p3 p4 p5; clear k1 k2 k3; go_simp <;> with_reducible rfl)
  try simp only [Act.put, List.setIfInBounds_toArray, List.set_cons_zero, List.set_cons_succ]
  refine wpAnyH_take (i := 6) (oi := { dst := some 73, op := _, type := _, pos := _, after := _, guard := _ }) (v := ?_) rfl (by kernel_rfl) (by kernel_rfl) (by kernel_rfl) (fun _ _ _ h => h) (Or.inl ⟨by rfl, ?_⟩) hHeld ?_
  rotate_left
  · (intro w hSw; obtain ⟨l1, k1⟩ := HK1.out _ hSw; have p0 := k1 0; have p1 := k1 1; obtain ⟨l2, k2⟩ := HK2.out _ hSw; have p2 := k2 0; have p3 := k2 1; obtain ⟨l3, k3⟩ := HK3.out _ hSw; have p4 := k3 0; have p5 := k3 1; simp at p0 p1 p2 p3 p4 p5; clear k1 k2 k3; go_simp <;> with_reducible rfl)
  try simp only [Act.put, List.setIfInBounds_toArray, List.set_cons_zero, List.set_cons_succ]
  refine wpAnyH_take (i := 7) (oi := { dst := some 74, op := _, type := _, pos := _, after := _, guard := _ }) (v := ?_) rfl (by kernel_rfl) (by kernel_rfl) (by kernel_rfl) (fun _ _ _ h => h) (Or.inl ⟨by rfl, ?_⟩) hHeld ?_
  rotate_left
  · (intro w hSw; obtain ⟨l1, k1⟩ := HK1.out _ hSw; have p0 := k1 0; have p1 := k1 1; obtain ⟨l2, k2⟩ := HK2.out _ hSw; have p2 := k2 0; have p3 := k2 1; obtain ⟨l3, k3⟩ := HK3.out _ hSw; have p4 := k3 0; have p5 := k3 1; simp at p0 p1 p2 p3 p4 p5; clear k1 k2 k3; go_simp <;> with_reducible rfl)
  try simp only [Act.put, List.setIfInBounds_toArray, List.set_cons_zero, List.set_cons_succ]
  refine wpAnyH_take (i := 8) (oi := { dst := some 75, op := _, type := _, pos := _, after := _, guard := _ }) (v := ?_) rfl (by kernel_rfl) (by kernel_rfl) (by kernel_rfl) (fun _ _ _ h => h) (Or.inl ⟨by rfl, ?_⟩) hHeld ?_
  rotate_left
  · (intro w hSw; obtain ⟨l1, k1⟩ := HK1.out _ hSw; have p0 := k1 0; have p1 := k1 1; obtain ⟨l2, k2⟩ := HK2.out _ hSw; have p2 := k2 0; have p3 := k2 1; obtain ⟨l3, k3⟩ := HK3.out _ hSw; have p4 := k3 0; have p5 := k3 1; simp at p0 p1 p2 p3 p4 p5; clear k1 k2 k3; go_simp <;> with_reducible rfl)
  try simp only [Act.put, List.setIfInBounds_toArray, List.set_cons_zero, List.set_cons_succ]
  refine wpAnyH_take (i := 9) (oi := { dst := some 76, op := _, type := _, pos := _, after := _, guard := _ }) (v := ?_) rfl (by kernel_rfl) (by kernel_rfl) (by kernel_rfl) (fun _ _ _ h => h) (Or.inl ⟨by rfl, ?_⟩) hHeld ?_
  rotate_left
  · (intro w hSw; obtain ⟨l1, k1⟩ := HK1.out _ hSw; have p0 := k1 0; have p1 := k1 1; obtain ⟨l2, k2⟩ := HK2.out _ hSw; have p2 := k2 0; have p3 := k2 1; obtain ⟨l3, k3⟩ := HK3.out _ hSw; have p4 := k3 0; have p5 := k3 1; simp at p0 p1 p2 p3 p4 p5; clear k1 k2 k3; go_simp <;> with_reducible rfl)
  try simp only [Act.put, List.setIfInBounds_toArray, List.set_cons_zero, List.set_cons_succ]
  refine wpAnyH_take (i := 10) (oi := { dst := some 77, op := _, type := _, pos := _, after := _, guard := _ }) (v := ?_) rfl (by kernel_rfl) (by kernel_rfl) (by kernel_rfl) (fun _ _ _ h => h) (Or.inl ⟨by rfl, ?_⟩) hHeld ?_
  rotate_left
  · (intro w hSw; obtain ⟨l1, k1⟩ := HK1.out _ hSw; have p0 := k1 0; have p1 := k1 1; obtain ⟨l2, k2⟩ := HK2.out _ hSw; have p2 := k2 0; have p3 := k2 1; obtain ⟨l3, k3⟩ := HK3.out _ hSw; have p4 := k3 0; have p5 := k3 1; simp at p0 p1 p2 p3 p4 p5; clear k1 k2 k3; go_simp <;> with_reducible rfl)
  try simp only [Act.put, List.setIfInBounds_toArray, List.set_cons_zero, List.set_cons_succ]
  refine wpAnyH_take (i := 12) (oi := { dst := some 79, op := _, type := _, pos := _, after := _, guard := _ }) (v := ?_) rfl (by kernel_rfl) (by kernel_rfl) (by kernel_rfl) (fun _ _ _ h => h) (Or.inl ⟨by rfl, ?_⟩) hHeld ?_
  rotate_left
  · (intro w hSw; obtain ⟨l1, k1⟩ := HK1.out _ hSw; have p0 := k1 0; have p1 := k1 1; obtain ⟨l2, k2⟩ := HK2.out _ hSw; have p2 := k2 0; have p3 := k2 1; obtain ⟨l3, k3⟩ := HK3.out _ hSw; have p4 := k3 0; have p5 := k3 1; simp at p0 p1 p2 p3 p4 p5; clear k1 k2 k3; go_simp <;> with_reducible rfl)
  try simp only [Act.put, List.setIfInBounds_toArray, List.set_cons_zero, List.set_cons_succ]
  refine wpAnyH_take (i := 13) (oi := { dst := some 80, op := _, type := _, pos := _, after := _, guard := _ }) (v := ?_) rfl (by kernel_rfl) (by kernel_rfl) (by kernel_rfl) (fun _ _ _ h => h) (Or.inl ⟨by rfl, ?_⟩) hHeld ?_
  rotate_left
  · (intro w hSw; obtain ⟨l1, k1⟩ := HK1.out _ hSw; have p0 := k1 0; have p1 := k1 1; obtain ⟨l2, k2⟩ := HK2.out _ hSw; have p2 := k2 0; have p3 := k2 1; obtain ⟨l3, k3⟩ := HK3.out _ hSw; have p4 := k3 0; have p5 := k3 1; simp at p0 p1 p2 p3 p4 p5; clear k1 k2 k3; go_simp <;> with_reducible rfl)
  try simp only [Act.put, List.setIfInBounds_toArray, List.set_cons_zero, List.set_cons_succ]
  refine wpAnyH_ready (rs := [11]) (by kernel_rfl) (by simp) ?_
  refine AllReadyH.cons (o := { dst := some 78, op := _, type := _, pos := _, after := _, guard := _ }) rfl (fun K hK => ?_) AllReadyH.nil
  go_simp
  refine (HG1.out _ _ _ (HPX.out _ hHeld)).mono ?_
  rintro e x1 ⟨rfl, hk1⟩
  have hKeep := since_step hHeld hk1
  go_wp2_with fail
  refine hK.out _ _ (by (try dsimp only); exact hKeep) (fun hHeld => ?_)
  clear hK K hKeep
  try simp only [Act.put, List.setIfInBounds_toArray, List.set_cons_zero, List.set_cons_succ]
  refine wpAnyH_ready (rs := [14]) (by kernel_rfl) (by simp) ?_
  refine AllReadyH.cons (o := { dst := some 81, op := _, type := _, pos := _, after := _, guard := _ }) rfl (fun K hK => ?_) AllReadyH.nil
  go_simp
  refine (HG2.out _ (HSL.out _ hHeld)).mono ?_
  rintro e x2 ⟨rfl, hk2⟩
  have hKeep := since_step hHeld hk2
  go_wp2_with fail
  refine hK.out _ _ (by (try dsimp only); exact hKeep) (fun hHeld => ?_)
  clear hK K hKeep
  try simp only [Act.put, List.setIfInBounds_toArray, List.set_cons_zero, List.set_cons_succ]
  refine wpAnyH_take (i := 15) (oi := { dst := some 82, op := _, type := _, pos := _, after := _, guard := _ }) (v := ?_) rfl (by kernel_rfl) (by kernel_rfl) (by kernel_rfl) (fun _ _ _ h => h) (Or.inl ⟨by rfl, ?_⟩) hHeld ?_
  rotate_left
  · (intro w hSw; obtain ⟨l1, k1⟩ := HK1.out _ hSw; have p0 := k1 0; have p1 := k1 1; obtain ⟨l2, k2⟩ := HK2.out _ hSw; have p2 := k2 0; have p3 := k2 1; obtain ⟨l3, k3⟩ := HK3.out _ hSw; have p4 := k3 0; have p5 := k3 1; simp at p0 p1 p2 p3 p4 p5; clear k1 k2 k3; go_simp <;> with_reducible rfl)
  try simp only [Act.put, List.setIfInBounds_toArray, List.set_cons_zero, List.set_cons_succ]
  refine wpAnyH_take (i := 16) (oi := { dst := some 83, op := _, type := _, pos := _, after := _, guard := _ }) (v := ?_) rfl (by kernel_rfl) (by kernel_rfl) (by kernel_rfl) (fun _ _ _ h => h) (Or.inl ⟨by rfl, ?_⟩) hHeld ?_
  rotate_left
  · (intro w hSw; obtain ⟨l1, k1⟩ := HK1.out _ hSw; have p0 := k1 0; have p1 := k1 1; obtain ⟨l2, k2⟩ := HK2.out _ hSw; have p2 := k2 0; have p3 := k2 1; obtain ⟨l3, k3⟩ := HK3.out _ hSw; have p4 := k3 0; have p5 := k3 1; simp at p0 p1 p2 p3 p4 p5; clear k1 k2 k3; go_simp <;> with_reducible rfl)
  try simp only [Act.put, List.setIfInBounds_toArray, List.set_cons_zero, List.set_cons_succ]
  refine wpAnyH_done (by kernel_rfl) ?_ _
  have hBf := hB.trans (hHeld.mono hszU)
  have hsL := HSL.out _ hHeld
  have h1x := HPX.out _ hHeld
  clear HK1 HK2 HK3
  go_wp2_with fail
  refine (HT1.out _ _ _ h1x).mono ?_
  rintro e y1 ⟨rfl, hb⟩
  have hBf := since_step hBf hb
  have hsL := hsL.below hb
  have h1x := h1x.below hb
  clear hb
  go_wp2_with fail
  refine (HT2.out _ hsL).mono ?_
  rintro e y2 ⟨rfl, hb⟩
  have hBf := since_step hBf hb
  have hsL := hsL.below hb
  have h1x := h1x.below hb
  clear hb
  clear hsL
  go_wp2_with fail
  refine (HIS.out _ _ _ h1x).mono ?_
  rintro e y3 ⟨rfl, hb⟩
  have hBf := since_step hBf hb
  have h1x := h1x.below hb
  clear hb
  go_wp2_with fail
  refine (HLV.out _).mono ?_
  rintro e y4 ⟨rfl, hb⟩
  have hBf := since_step hBf hb
  have h1x := h1x.below hb
  clear hb
  go_wp2_with fail
  go_ret
  exact ⟨rfl, hBf⟩

set_option maxHeartbeats 16000000 in
set_option maxRecDepth 100000 in
theorem pmv_C22 (a0 : Option Addr) (n0 c0 : Nat) (L : List Fw) (fa fc ta tc oa oc m : Int) (w : World) (hL20 : L.length ≤ 20) (hLq : ∀ x ∈ L, Fw.in_ x) (hsL : Sl w a0 (rc Fw.cells L)) (hf : In64 fa ∧ In64 fc ∧ In64 ta ∧ In64 tc ∧ In64 m)
    (HF1 : Hid (∀ V, Below w.heap.size w V → Calls Try.prog 14 #[.slice a0 n0 c0] V fun e w' => e = .returned (.slice a0 L.length c0) ∧ Below V.heap.size V w')) (hm : m ≠ -9223372036854775808) (pn : Int) (PL : List Fw) (hPL : payR L [⟨fa, fc, -m⟩, ⟨ta, tc, m⟩] = (pn, PL)) (h0 : pn = 0) (hf1 : oa = fa) (hf2 : oc ≠ fc) (ht1 : oa = ta) (ht2 : oc ≠ tc) :
    Calls Try.prog 4 #[.slice a0 n0 c0, .agg #[.int .i64 fa, .int .i64 fc], .agg #[.int .i64 ta, .int .i64 tc], .agg #[.int .i64 oa, .int .i64 oc], .int .i64 m] w fun e w' => e = .returned (.bool true) ∧ Below w.heap.size w w' := by
  have hB := since_alloc (since_alloc (since_alloc (Below.refl _ w) (.cells #[.int .i64 fa, .int .i64 fc] 24)) (.cells #[.int .i64 ta, .int .i64 tc] 24)) (.cells #[.int .i64 oa, .int .i64 oc] 24)
  have HF1 := Lib.hid (HF1.out _ hB)
  have hK1 := ((Bk.new w #[.int .i64 fa, .int .i64 fc] 24).alloc (.cells #[.int .i64 ta, .int .i64 tc] 24)).alloc (.cells #[.int .i64 oa, .int .i64 oc] 24)
  have hK2 := (Bk.new (w.alloc (.cells #[.int .i64 fa, .int .i64 fc] 24)) #[.int .i64 ta, .int .i64 tc] 24).alloc (.cells #[.int .i64 oa, .int .i64 oc] 24)
  have hK3 := Bk.new ((w.alloc (.cells #[.int .i64 fa, .int .i64 fc] 24)).alloc (.cells #[.int .i64 ta, .int .i64 tc] 24)) #[.int .i64 oa, .int .i64 oc] 24
  rw [World.size_alloc] at hK2
  rw [World.size_alloc, World.size_alloc] at hK3
  have hsL := ((hsL.alloc (.cells #[.int .i64 fa, .int .i64 fc] 24)).alloc (.cells #[.int .i64 ta, .int .i64 tc] 24)).alloc (.cells #[.int .i64 oa, .int .i64 oc] 24)
  have HM := Lib.hid (fun V h => pmove_any a0 c0 L fa fc ta tc m V (by omega) hLq hf h)
  have HLV := Lib.hid (fun V => lives17_any V)
  have hm6 : In64 (-m) := by obtain ⟨_, _, _, _, h⟩ := hf; unfold In64 at *; omega
  rw [moveR_pay hm6] at HM
  have hall : ∀ x ∈ L ++ [(⟨fa, fc, -m⟩ : Fw), ⟨ta, tc, m⟩], Fw.in_ x := fun x hx => by
    rcases List.mem_append.1 hx with hx | hx
    · exact hLq x hx
    · rcases List.mem_cons.1 hx with rfl | hx
      · exact ⟨hf.1, hf.2.1, hm6⟩
      · obtain rfl : x = ⟨ta, tc, m⟩ := by simpa using hx
        exact ⟨hf.2.2.1, hf.2.2.2.1, hf.2.2.2.2⟩
  have HRP := Lib.hid (fun A V h1 h2 => rppay_any a0 A c0 2 L [⟨fa, fc, -m⟩, ⟨ta, tc, m⟩] V (by omega) (by simp) hall h1 h2)
  have hpl := payR_len L [⟨fa, fc, -m⟩, ⟨ta, tc, m⟩]
  rw [hPL] at HM HRP hpl
  have hpl2 : PL.length ≤ 22 := by simpa using Nat.le_trans hpl (by simp; omega)
  have hpl3 : PL.length ≤ 1000000 := by omega
  have HSM := Lib.hid (fun A A2 c c2 V h1 h2 => rpsame_any_self A A2 c c2 PL V hpl3 h1 h2)
  unfold PRes at HM HRP
  simp only [List.length_cons, List.length_nil] at HM HRP
  have hpn : (pn != pn) = false := by simp
  have hmb : (m == -9223372036854775808) = false := by simpa using hm
  have hwn : IntKind.i64.wrap (-m) = -m := IntWalk.i64_in _ hm6
  subst h0
  obtain ⟨q1, q2, q3⟩ := moved_facts hPL
  have hPLq : ∀ x ∈ PL, In64 x.amt := by
    intro x hx
    unfold payR at hPL
    split at hPL
    · cases hPL
    · split at hPL
      · cases hPL
      · rename_i hfit
        injection hPL with _ e
        subst e
        obtain ⟨⟨y, hy, e1, e2⟩, h2, _⟩ := (mem_purseOf _ _).1 hx
        have hfit : fitsU (L ++ [(⟨fa, fc, -m⟩ : Fw), ⟨ta, tc, m⟩]) = true := by simpa using hfit
        unfold fitsU at hfit
        rw [List.all_eq_true] at hfit
        rw [h2]
        exact (fitI_iff _).1 (hfit ⟨x.ac, x.cl⟩ ((mem_unitsU _ _).2 ⟨y, hy, e1, e2⟩))
  have hLA : ∀ y ∈ L, In64 y.amt := fun y hy => (hLq y hy).2.2
  have HT1 := Lib.hid (fun A c V h => ptotal_any A c PL V (by omega) hPLq h)
  have HT2 := Lib.hid (fun V h => ptotal_any a0 c0 L V (by omega) hLA h)
  rw [q1] at HT1
  have HIS := Lib.hid (fun A c V h => pis_any A c PL V hpl3 h)
  rw [q2] at HIS
  obtain ⟨th, hth⟩ : ∃ n, hiN (totF L) = n := ⟨_, rfl⟩
  obtain ⟨tl, htl⟩ : ∃ n, loN (totF L) = n := ⟨_, rfl⟩
  rw [hth, htl] at HT1 HT2
  have hq1 : (th == th) = true := by simp
  have hq2 : (tl == tl) = true := by simp
  have HG1 := Lib.hid (fun A c V h => pget_any A c PL oa oc V hpl3 h)
  have HG2 := Lib.hid (fun V h => pget_any a0 c0 L oa oc V (by omega) h)
  rw [q3 oa oc (fun h => hf2 h.2) (fun h => ht2 h.2)] at HG1
  obtain ⟨gt, hgt⟩ : ∃ n, getF L oa oc = n := ⟨_, rfl⟩
  rw [hgt] at HG1 HG2
  have hgn : (gt != gt) = false := by simp
  clear hgt
  clear q1 q2 q3 hPLq hLA hth htl
  have bf1 : (oa != fa) = false := by rw [hf1]; simp
  have bf2 : (oc != fc) = true := by simpa using hf2
  have cf1 : (oa == fa) = true := by rw [hf1]; simp
  have cf2 : (oc == fc) = false := by simpa using hf2
  clear hf1 hf2
  have bt1 : (oa != ta) = false := by rw [ht1]; simp
  have bt2 : (oc != tc) = true := by simpa using ht2
  have ct1 : (oa == ta) = true := by rw [ht1]; simp
  have ct2 : (oc == tc) = false := by simpa using ht2
  clear ht1 ht2
  clear hm hm6 hall hpl hpl3 hPL hLq hf hL20
  go_enter Try.func4, Try.ntmps4
  go_upto_region 1 with fail
  generalize hWW : ((w.alloc (.cells #[.int .i64 fa, .int .i64 fc] 24)).alloc (.cells #[.int .i64 ta, .int .i64 tc] 24)).alloc (.cells #[.int .i64 oa, .int .i64 oc] 24) = W at *
  clear hWW
  obtain ⟨hK1_l, hK1_c⟩ := id hK1
  have hK1_0 := hK1_c 0
  have hK1_1 := hK1_c 1
  simp at hK1_0 hK1_1
  clear hK1_c
  obtain ⟨hK2_l, hK2_c⟩ := id hK2
  have hK2_0 := hK2_c 0
  have hK2_1 := hK2_c 1
  simp at hK2_0 hK2_1
  clear hK2_c
  obtain ⟨hK3_l, hK3_c⟩ := id hK3
  have hK3_0 := hK3_c 0
  have hK3_1 := hK3_c 1
  simp at hK3_0 hK3_1
  clear hK3_c
  go_wp2_with fail
  refine HF1.out.mono ?_
  rintro e z1 ⟨rfl, hb⟩
  have hB := since_step hB hb
  have hK1 := hK1.below hb
  have hK2 := hK2.below hb
  have hK3 := hK3.below hb
  have hsL := hsL.below hb
  clear hb HF1
  clear hK1_l hK1_0 hK1_1 hK2_l hK2_0 hK2_1 hK3_l hK3_0 hK3_1
  obtain ⟨hK1_l, hK1_c⟩ := id hK1
  have hK1_0 := hK1_c 0
  have hK1_1 := hK1_c 1
  simp at hK1_0 hK1_1
  clear hK1_c
  obtain ⟨hK2_l, hK2_c⟩ := id hK2
  have hK2_0 := hK2_c 0
  have hK2_1 := hK2_c 1
  simp at hK2_0 hK2_1
  clear hK2_c
  obtain ⟨hK3_l, hK3_c⟩ := id hK3
  have hK3_0 := hK3_c 0
  have hK3_1 := hK3_c 1
  simp at hK3_0 hK3_1
  clear hK3_c
  go_wp2_with fail
  refine (HM.out _ hsL).mono ?_
  rintro e z2 ⟨⟨A1x, c1x, rfl, h1x⟩, hb⟩
  have hB := since_step hB hb
  have hK1 := hK1.below hb
  have hK2 := hK2.below hb
  have hK3 := hK3.below hb
  have hsL := hsL.below hb
  clear hb
  clear hK1_l hK1_0 hK1_1 hK2_l hK2_0 hK2_1 hK3_l hK3_0 hK3_1
  obtain ⟨hK1_l, hK1_c⟩ := id hK1
  have hK1_0 := hK1_c 0
  have hK1_1 := hK1_c 1
  simp at hK1_0 hK1_1
  clear hK1_c
  obtain ⟨hK2_l, hK2_c⟩ := id hK2
  have hK2_0 := hK2_c 0
  have hK2_1 := hK2_c 1
  simp at hK2_0 hK2_1
  clear hK2_c
  obtain ⟨hK3_l, hK3_c⟩ := id hK3
  have hK3_0 := hK3_c 0
  have hK3_1 := hK3_c 1
  simp at hK3_0 hK3_1
  clear hK3_c
  have hnw := Sl.new_ z2 (rc Fw.cells [⟨fa, fc, -m⟩, ⟨ta, tc, m⟩]) 48
  have hA := (Below.refl z2.heap.size z2).alloc (Nat.le_refl _) (.cells #[.int .i64 fa, .int .i64 fc, .int .i64 (-m), .int .i64 ta, .int .i64 tc, .int .i64 m] 48)
  go_wp2_with fail
  have hB := since_step hB hA
  have hK1 := hK1.below hA
  have hK2 := hK2.below hA
  have hK3 := hK3.below hA
  have hsL := hsL.below hA
  have h1x := h1x.below hA
  refine (HRP.out _ _ hsL hnw).mono ?_
  rintro e z3 ⟨⟨A2x, c2x, rfl, h2x⟩, hb⟩
  have hB := since_step hB hb
  have hK1 := hK1.below hb
  have hK2 := hK2.below hb
  have hK3 := hK3.below hb
  have hsL := hsL.below hb
  have h1x := h1x.below hb
  clear hb hA hnw
  clear hK1_l hK1_0 hK1_1 hK2_l hK2_0 hK2_1 hK3_l hK3_0 hK3_1
  obtain ⟨hK1_l, hK1_c⟩ := id hK1
  have hK1_0 := hK1_c 0
  have hK1_1 := hK1_c 1
  simp at hK1_0 hK1_1
  clear hK1_c
  obtain ⟨hK2_l, hK2_c⟩ := id hK2
  have hK2_0 := hK2_c 0
  have hK2_1 := hK2_c 1
  simp at hK2_0 hK2_1
  clear hK2_c
  obtain ⟨hK3_l, hK3_c⟩ := id hK3
  have hK3_0 := hK3_c 0
  have hK3_1 := hK3_c 1
  simp at hK3_0 hK3_1
  clear hK3_c
  go_wp2_with fail
  refine (HSM.out _ _ _ _ _ h1x h2x).mono ?_
  rintro e z4 ⟨rfl, hb⟩
  have hB := since_step hB hb
  have hK1 := hK1.below hb
  have hK2 := hK2.below hb
  have hK3 := hK3.below hb
  have hsL := hsL.below hb
  have h1x := h1x.below hb
  have h2x := h2x.below hb
  clear hb
  clear hK1_l hK1_0 hK1_1 hK2_l hK2_0 hK2_1 hK3_l hK3_0 hK3_1
  clear h2x
  obtain ⟨hK1_l, hK1_c⟩ := id hK1
  have hK1_0 := hK1_c 0
  have hK1_1 := hK1_c 1
  simp at hK1_0 hK1_1
  clear hK1_c
  obtain ⟨hK2_l, hK2_c⟩ := id hK2
  have hK2_0 := hK2_c 0
  have hK2_1 := hK2_c 1
  simp at hK2_0 hK2_1
  clear hK2_c
  obtain ⟨hK3_l, hK3_c⟩ := id hK3
  have hK3_0 := hK3_c 0
  have hK3_1 := hK3_c 1
  simp at hK3_0 hK3_1
  clear hK3_c
  go_upto_region 13 with fail
  skip
  clear hK1_l hK1_0 hK1_1 hK2_l hK2_0 hK2_1 hK3_l hK3_0 hK3_1
  have HK1 : Hid (∀ V, Below z4.heap.size z4 V → Bk V w.heap.size #[.int .i64 fa, .int .i64 fc]) := Lib.hid fun V h => hK1.below h
  have HK2 : Hid (∀ V, Below z4.heap.size z4 V → Bk V (w.heap.size + 1) #[.int .i64 ta, .int .i64 tc]) := Lib.hid fun V h => hK2.below h
  have HK3 : Hid (∀ V, Below z4.heap.size z4 V → Bk V (w.heap.size + 1 + 1) #[.int .i64 oa, .int .i64 oc]) := Lib.hid fun V h => hK3.below h
  have HSL : Hid (∀ V, Below z4.heap.size z4 V → Sl V a0 (rc Fw.cells L)) := Lib.hid fun V h => hsL.below h
  have HPX : Hid (∀ V, Below z4.heap.size z4 V → Sl V A1x (rc Fw.cells PL)) := Lib.hid fun V h => h1x.below h
  have hszU := hB.size
  clear hK1 hK2 hK3 hsL h1x
  go_wp2_with fail
  refine wp_region_held_drew (S := (fun V => Below z4.heap.size z4 V)) (by kernel_rfl) (by exact (Below.refl _ _).drew) (fun hHeld => ?_)
  refine wpAnyH_take (i := 0) (oi := { dst := some 67, op := _, type := _, pos := _, after := _, guard := _ }) (v := ?_) rfl (by kernel_rfl) (by kernel_rfl) (by kernel_rfl) (fun _ _ _ h => h) (Or.inl ⟨by rfl, ?_⟩) hHeld ?_
  rotate_left
  · (intro w hSw; obtain ⟨l1, k1⟩ := HK1.out _ hSw; have p0 := k1 0; have p1 := k1 1; obtain ⟨l2, k2⟩ := HK2.out _ hSw; have p2 := k2 0; have p3 := k2 1; obtain ⟨l3, k3⟩ := HK3.out _ hSw; have p4 := k3 0; have p5 := k3 1; simp at p0 p1 p2 p3 p4 p5; clear k1 k2 k3; go_simp <;> with_reducible rfl)
  try simp only [Act.put, List.setIfInBounds_toArray, List.set_cons_zero, List.set_cons_succ]
  refine wpAnyH_take (i := 1) (oi := { dst := some 68, op := _, type := _, pos := _, after := _, guard := _ }) (v := ?_) rfl (by kernel_rfl) (by kernel_rfl) (by kernel_rfl) (fun _ _ _ h => h) (Or.inl ⟨by rfl, ?_⟩) hHeld ?_
  rotate_left
  · (intro w hSw; obtain ⟨l1, k1⟩ := HK1.out _ hSw; have p0 := k1 0; have p1 := k1 1; obtain ⟨l2, k2⟩ := HK2.out _ hSw; have p2 := k2 0; have p3 := k2 1; obtain ⟨l3, k3⟩ := HK3.out _ hSw; have p4 := k3 0; have p5 := k3 1; simp at p0 p1 p2 p3 p4 p5; clear k1 k2 k3; go_simp <;> with_reducible rfl)
  try simp only [Act.put, List.setIfInBounds_toArray, List.set_cons_zero, List.set_cons_succ]
  refine wpAnyH_take (i := 2) (oi := { dst := some 69, op := _, type := _, pos := _, after := _, guard := _ }) (v := ?_) rfl (by kernel_rfl) (by kernel_rfl) (by kernel_rfl) (fun _ _ _ h => h) (Or.inl ⟨by rfl, ?_⟩) hHeld ?_
  rotate_left
  · (intro w hSw; obtain ⟨l1, k1⟩ := HK1.out _ hSw; have p0 := k1 0; have p1 := k1 1; obtain ⟨l2, k2⟩ := HK2.out _ hSw; have p2 := k2 0; have p3 := k2 1; obtain ⟨l3, k3⟩ := HK3.out _ hSw; have p4 := k3 0; have p5 := k3 1; simp at p0 p1 p2 p3 p4 p5; clear k1 k2 k3; go_simp <;> with_reducible rfl)
  try simp only [Act.put, List.setIfInBounds_toArray, List.set_cons_zero, List.set_cons_succ]
  refine wpAnyH_take (i := 3) (oi := { dst := some 70, op := _, type := _, pos := _, after := _, guard := _ }) (v := ?_) rfl (by kernel_rfl) (by kernel_rfl) (by kernel_rfl) (fun _ _ _ h => h) (Or.inl ⟨by rfl, ?_⟩) hHeld ?_
  rotate_left
  · (intro w hSw; obtain ⟨l1, k1⟩ := HK1.out _ hSw; have p0 := k1 0; have p1 := k1 1; obtain ⟨l2, k2⟩ := HK2.out _ hSw; have p2 := k2 0; have p3 := k2 1; obtain ⟨l3, k3⟩ := HK3.out _ hSw; have p4 := k3 0; have p5 := k3 1; simp at p0 p1 p2 p3 p4 p5; clear k1 k2 k3; go_simp <;> with_reducible rfl)
  try simp only [Act.put, List.setIfInBounds_toArray, List.set_cons_zero, List.set_cons_succ]
  refine wpAnyH_take (i := 4) (oi := { dst := some 71, op := _, type := _, pos := _, after := _, guard := _ }) (v := ?_) rfl (by kernel_rfl) (by kernel_rfl) (by kernel_rfl) (fun _ _ _ h => h) (Or.inl ⟨by rfl, ?_⟩) hHeld ?_
  rotate_left
  · (intro w hSw; obtain ⟨l1, k1⟩ := HK1.out _ hSw; have p0 := k1 0; have p1 := k1 1; obtain ⟨l2, k2⟩ := HK2.out _ hSw; have p2 := k2 0; have p3 := k2 1; obtain ⟨l3, k3⟩ := HK3.out _ hSw; have p4 := k3 0; have p5 := k3 1; simp at p0 p1 p2 p3 p4 p5; clear k1 k2 k3; go_simp <;> with_reducible rfl)
  try simp only [Act.put, List.setIfInBounds_toArray, List.set_cons_zero, List.set_cons_succ]
  refine wpAnyH_take (i := 5) (oi := { dst := some 72, op := _, type := _, pos := _, after := _, guard := _ }) (v := ?_) rfl (by kernel_rfl) (by kernel_rfl) (by kernel_rfl) (fun _ _ _ h => h) (Or.inl ⟨by rfl, ?_⟩) hHeld ?_
  rotate_left
  · (intro w hSw; obtain ⟨l1, k1⟩ := HK1.out _ hSw; have p0 := k1 0; have p1 := k1 1; obtain ⟨l2, k2⟩ := HK2.out _ hSw; have p2 := k2 0; have p3 := k2 1; obtain ⟨l3, k3⟩ := HK3.out _ hSw; have p4 := k3 0; have p5 := k3 1; simp at p0 p1 p2 p3 p4 p5; clear k1 k2 k3; go_simp <;> with_reducible rfl)
  try simp only [Act.put, List.setIfInBounds_toArray, List.set_cons_zero, List.set_cons_succ]
  refine wpAnyH_take (i := 6) (oi := { dst := some 73, op := _, type := _, pos := _, after := _, guard := _ }) (v := ?_) rfl (by kernel_rfl) (by kernel_rfl) (by kernel_rfl) (fun _ _ _ h => h) (Or.inl ⟨by rfl, ?_⟩) hHeld ?_
  rotate_left
  · (intro w hSw; obtain ⟨l1, k1⟩ := HK1.out _ hSw; have p0 := k1 0; have p1 := k1 1; obtain ⟨l2, k2⟩ := HK2.out _ hSw; have p2 := k2 0; have p3 := k2 1; obtain ⟨l3, k3⟩ := HK3.out _ hSw; have p4 := k3 0; have p5 := k3 1; simp at p0 p1 p2 p3 p4 p5; clear k1 k2 k3; go_simp <;> with_reducible rfl)
  try simp only [Act.put, List.setIfInBounds_toArray, List.set_cons_zero, List.set_cons_succ]
  refine wpAnyH_take (i := 7) (oi := { dst := some 74, op := _, type := _, pos := _, after := _, guard := _ }) (v := ?_) rfl (by kernel_rfl) (by kernel_rfl) (by kernel_rfl) (fun _ _ _ h => h) (Or.inl ⟨by rfl, ?_⟩) hHeld ?_
  rotate_left
  · (intro w hSw; obtain ⟨l1, k1⟩ := HK1.out _ hSw; have p0 := k1 0; have p1 := k1 1; obtain ⟨l2, k2⟩ := HK2.out _ hSw; have p2 := k2 0; have p3 := k2 1; obtain ⟨l3, k3⟩ := HK3.out _ hSw; have p4 := k3 0; have p5 := k3 1; simp at p0 p1 p2 p3 p4 p5; clear k1 k2 k3; go_simp <;> with_reducible rfl)
  try simp only [Act.put, List.setIfInBounds_toArray, List.set_cons_zero, List.set_cons_succ]
  refine wpAnyH_take (i := 8) (oi := { dst := some 75, op := _, type := _, pos := _, after := _, guard := _ }) (v := ?_) rfl (by kernel_rfl) (by kernel_rfl) (by kernel_rfl) (fun _ _ _ h => h) (Or.inl ⟨by rfl, ?_⟩) hHeld ?_
  rotate_left
  · (intro w hSw; obtain ⟨l1, k1⟩ := HK1.out _ hSw; have p0 := k1 0; have p1 := k1 1; obtain ⟨l2, k2⟩ := HK2.out _ hSw; have p2 := k2 0; have p3 := k2 1; obtain ⟨l3, k3⟩ := HK3.out _ hSw; have p4 := k3 0; have p5 := k3 1; simp at p0 p1 p2 p3 p4 p5; clear k1 k2 k3; go_simp <;> with_reducible rfl)
  try simp only [Act.put, List.setIfInBounds_toArray, List.set_cons_zero, List.set_cons_succ]
  refine wpAnyH_take (i := 9) (oi := { dst := some 76, op := _, type := _, pos := _, after := _, guard := _ }) (v := ?_) rfl (by kernel_rfl) (by kernel_rfl) (by kernel_rfl) (fun _ _ _ h => h) (Or.inl ⟨by rfl, ?_⟩) hHeld ?_
  rotate_left
  · (intro w hSw; obtain ⟨l1, k1⟩ := HK1.out _ hSw; have p0 := k1 0; have p1 := k1 1; obtain ⟨l2, k2⟩ := HK2.out _ hSw; have p2 := k2 0; have p3 := k2 1; obtain ⟨l3, k3⟩ := HK3.out _ hSw; have p4 := k3 0; have p5 := k3 1; simp at p0 p1 p2 p3 p4 p5; clear k1 k2 k3; go_simp <;> with_reducible rfl)
  try simp only [Act.put, List.setIfInBounds_toArray, List.set_cons_zero, List.set_cons_succ]
  refine wpAnyH_take (i := 10) (oi := { dst := some 77, op := _, type := _, pos := _, after := _, guard := _ }) (v := ?_) rfl (by kernel_rfl) (by kernel_rfl) (by kernel_rfl) (fun _ _ _ h => h) (Or.inl ⟨by rfl, ?_⟩) hHeld ?_
  rotate_left
  · (intro w hSw; obtain ⟨l1, k1⟩ := HK1.out _ hSw; have p0 := k1 0; have p1 := k1 1; obtain ⟨l2, k2⟩ := HK2.out _ hSw; have p2 := k2 0; have p3 := k2 1; obtain ⟨l3, k3⟩ := HK3.out _ hSw; have p4 := k3 0; have p5 := k3 1; simp at p0 p1 p2 p3 p4 p5; clear k1 k2 k3; go_simp <;> with_reducible rfl)
  try simp only [Act.put, List.setIfInBounds_toArray, List.set_cons_zero, List.set_cons_succ]
  refine wpAnyH_take (i := 12) (oi := { dst := some 79, op := _, type := _, pos := _, after := _, guard := _ }) (v := ?_) rfl (by kernel_rfl) (by kernel_rfl) (by kernel_rfl) (fun _ _ _ h => h) (Or.inl ⟨by rfl, ?_⟩) hHeld ?_
  rotate_left
  · (intro w hSw; obtain ⟨l1, k1⟩ := HK1.out _ hSw; have p0 := k1 0; have p1 := k1 1; obtain ⟨l2, k2⟩ := HK2.out _ hSw; have p2 := k2 0; have p3 := k2 1; obtain ⟨l3, k3⟩ := HK3.out _ hSw; have p4 := k3 0; have p5 := k3 1; simp at p0 p1 p2 p3 p4 p5; clear k1 k2 k3; go_simp <;> with_reducible rfl)
  try simp only [Act.put, List.setIfInBounds_toArray, List.set_cons_zero, List.set_cons_succ]
  refine wpAnyH_take (i := 13) (oi := { dst := some 80, op := _, type := _, pos := _, after := _, guard := _ }) (v := ?_) rfl (by kernel_rfl) (by kernel_rfl) (by kernel_rfl) (fun _ _ _ h => h) (Or.inl ⟨by rfl, ?_⟩) hHeld ?_
  rotate_left
  · (intro w hSw; obtain ⟨l1, k1⟩ := HK1.out _ hSw; have p0 := k1 0; have p1 := k1 1; obtain ⟨l2, k2⟩ := HK2.out _ hSw; have p2 := k2 0; have p3 := k2 1; obtain ⟨l3, k3⟩ := HK3.out _ hSw; have p4 := k3 0; have p5 := k3 1; simp at p0 p1 p2 p3 p4 p5; clear k1 k2 k3; go_simp <;> with_reducible rfl)
  try simp only [Act.put, List.setIfInBounds_toArray, List.set_cons_zero, List.set_cons_succ]
  refine wpAnyH_ready (rs := [11]) (by kernel_rfl) (by simp) ?_
  refine AllReadyH.cons (o := { dst := some 78, op := _, type := _, pos := _, after := _, guard := _ }) rfl (fun K hK => ?_) AllReadyH.nil
  go_simp
  refine (HG1.out _ _ _ (HPX.out _ hHeld)).mono ?_
  rintro e x1 ⟨rfl, hk1⟩
  have hKeep := since_step hHeld hk1
  go_wp2_with fail
  refine hK.out _ _ (by (try dsimp only); exact hKeep) (fun hHeld => ?_)
  clear hK K hKeep
  try simp only [Act.put, List.setIfInBounds_toArray, List.set_cons_zero, List.set_cons_succ]
  refine wpAnyH_ready (rs := [14]) (by kernel_rfl) (by simp) ?_
  refine AllReadyH.cons (o := { dst := some 81, op := _, type := _, pos := _, after := _, guard := _ }) rfl (fun K hK => ?_) AllReadyH.nil
  go_simp
  refine (HG2.out _ (HSL.out _ hHeld)).mono ?_
  rintro e x2 ⟨rfl, hk2⟩
  have hKeep := since_step hHeld hk2
  go_wp2_with fail
  refine hK.out _ _ (by (try dsimp only); exact hKeep) (fun hHeld => ?_)
  clear hK K hKeep
  try simp only [Act.put, List.setIfInBounds_toArray, List.set_cons_zero, List.set_cons_succ]
  refine wpAnyH_take (i := 15) (oi := { dst := some 82, op := _, type := _, pos := _, after := _, guard := _ }) (v := ?_) rfl (by kernel_rfl) (by kernel_rfl) (by kernel_rfl) (fun _ _ _ h => h) (Or.inl ⟨by rfl, ?_⟩) hHeld ?_
  rotate_left
  · (intro w hSw; obtain ⟨l1, k1⟩ := HK1.out _ hSw; have p0 := k1 0; have p1 := k1 1; obtain ⟨l2, k2⟩ := HK2.out _ hSw; have p2 := k2 0; have p3 := k2 1; obtain ⟨l3, k3⟩ := HK3.out _ hSw; have p4 := k3 0; have p5 := k3 1; simp at p0 p1 p2 p3 p4 p5; clear k1 k2 k3; go_simp <;> with_reducible rfl)
  try simp only [Act.put, List.setIfInBounds_toArray, List.set_cons_zero, List.set_cons_succ]
  refine wpAnyH_take (i := 16) (oi := { dst := some 83, op := _, type := _, pos := _, after := _, guard := _ }) (v := ?_) rfl (by kernel_rfl) (by kernel_rfl) (by kernel_rfl) (fun _ _ _ h => h) (Or.inl ⟨by rfl, ?_⟩) hHeld ?_
  rotate_left
  · (intro w hSw; obtain ⟨l1, k1⟩ := HK1.out _ hSw; have p0 := k1 0; have p1 := k1 1; obtain ⟨l2, k2⟩ := HK2.out _ hSw; have p2 := k2 0; have p3 := k2 1; obtain ⟨l3, k3⟩ := HK3.out _ hSw; have p4 := k3 0; have p5 := k3 1; simp at p0 p1 p2 p3 p4 p5; clear k1 k2 k3; go_simp <;> with_reducible rfl)
  try simp only [Act.put, List.setIfInBounds_toArray, List.set_cons_zero, List.set_cons_succ]
  refine wpAnyH_done (by kernel_rfl) ?_ _
  have hBf := hB.trans (hHeld.mono hszU)
  have hsL := HSL.out _ hHeld
  have h1x := HPX.out _ hHeld
  clear HK1 HK2 HK3
  go_wp2_with fail
  refine (HT1.out _ _ _ h1x).mono ?_
  rintro e y1 ⟨rfl, hb⟩
  have hBf := since_step hBf hb
  have hsL := hsL.below hb
  have h1x := h1x.below hb
  clear hb
  go_wp2_with fail
  refine (HT2.out _ hsL).mono ?_
  rintro e y2 ⟨rfl, hb⟩
  have hBf := since_step hBf hb
  have hsL := hsL.below hb
  have h1x := h1x.below hb
  clear hb
  clear hsL
  go_wp2_with fail
  refine (HIS.out _ _ _ h1x).mono ?_
  rintro e y3 ⟨rfl, hb⟩
  have hBf := since_step hBf hb
  have h1x := h1x.below hb
  clear hb
  go_wp2_with fail
  refine (HLV.out _).mono ?_
  rintro e y4 ⟨rfl, hb⟩
  have hBf := since_step hBf hb
  have h1x := h1x.below hb
  clear hb
  go_wp2_with fail
  go_ret
  exact ⟨rfl, hBf⟩

theorem walk_PurseMoves (a0 : Option Addr) (n0 c0 : Nat) (a1 : Array Value) (a2 : Array Value) (a3 : Array Value) (a4 : Int) (w : World) (w0 : Rd w (.sl (.cat (.cat (.int .i64) (.cat (.int .i64) .nil)) (.cat (.int .i64) .nil))) [.slice a0 n0 c0]) (w1 : Rd w (.cat (.int .i64) (.cat (.int .i64) .nil)) a1.toList) (w2 : Rd w (.cat (.int .i64) (.cat (.int .i64) .nil)) a2.toList) (w3 : Rd w (.cat (.int .i64) (.cat (.int .i64) .nil)) a3.toList) (w4 : (Lit.int .i64 a4).wf = true) :
    Calls Try.prog 4 #[.slice a0 n0 c0, .agg a1, .agg a2, .agg a3, .int .i64 a4] w fun e w' => e = .returned (.bool true) ∧ Below w.heap.size w w' := by
  obtain ⟨L, hL20, hLq, hsL, HF1⟩ := rd_fws w0
  obtain ⟨fa, fc, h1, r1, r2⟩ := rd_unv w1
  obtain ⟨ta, tc, h2, r3, r4⟩ := rd_unv w2
  obtain ⟨oa, oc, h3, _, _⟩ := rd_unv w3
  rw [h1, h2, h3]
  have hf : In64 fa ∧ In64 fc ∧ In64 ta ∧ In64 tc ∧ In64 a4 := ⟨r1, r2, r3, r4, bd_i64 w4⟩
  by_cases hm : a4 = -9223372036854775808
  · cases his : isF L with
    | true => exact pmv_min_yes a0 n0 c0 L fa fc ta tc oa oc a4 w hL20 hLq hsL hf HF1 hm his
    | false => exact pmv_min_no a0 n0 c0 L fa fc ta tc oa oc a4 w hL20 hLq hsL hf HF1 hm his
  obtain ⟨pn, PL, hPL⟩ : ∃ n R, payR L [⟨fa, fc, -a4⟩, ⟨ta, tc, a4⟩] = (n, R) := ⟨_, _, rfl⟩
  by_cases h0 : pn = 0
  · by_cases f1 : oa = fa
    · by_cases f2 : oc = fc
      · exact pmv_A a0 n0 c0 L fa fc ta tc oa oc a4 w hL20 hLq hsL hf HF1 hm pn PL hPL h0 f1 f2
      · by_cases t1 : oa = ta
        · by_cases t2 : oc = tc
          · exact pmv_B2 a0 n0 c0 L fa fc ta tc oa oc a4 w hL20 hLq hsL hf HF1 hm pn PL hPL h0 f1 f2 t1 t2
          · exact pmv_C22 a0 n0 c0 L fa fc ta tc oa oc a4 w hL20 hLq hsL hf HF1 hm pn PL hPL h0 f1 f2 t1 t2
        · exact pmv_C21 a0 n0 c0 L fa fc ta tc oa oc a4 w hL20 hLq hsL hf HF1 hm pn PL hPL h0 f1 f2 t1
    · by_cases t1 : oa = ta
      · by_cases t2 : oc = tc
        · exact pmv_B1 a0 n0 c0 L fa fc ta tc oa oc a4 w hL20 hLq hsL hf HF1 hm pn PL hPL h0 f1 t1 t2
        · exact pmv_C12 a0 n0 c0 L fa fc ta tc oa oc a4 w hL20 hLq hsL hf HF1 hm pn PL hPL h0 f1 t1 t2
      · exact pmv_C11 a0 n0 c0 L fa fc ta tc oa oc a4 w hL20 hLq hsL hf HF1 hm pn PL hPL h0 f1 t1
  · exact pmv_err a0 n0 c0 L fa fc ta tc oa oc a4 w hL20 hLq hsL hf HF1 hm pn PL hPL h0
end Go.Proofs.Ytldnponbkhgijaa
