import Derived.Test.YtldnponbkhgijaaBK09
import Derived.Lib.ItoaNum
import Derived.Test.YtldnponbkhgijaaBK04
import Derived.Deep.CutBlock
import Derived.Deep.CutRange
import Derived.Deep.DeepCutAuto
section
namespace Go.Proofs.Ytldnponbkhgijaa
open Go.ChangeShapes Go.WideShapes Go.ChangeAt Go.RowKit
set_option linter.unusedVariables false
set_option linter.unusedSimpArgs false

noncomputable def moveP (cs : List Pc) (fa fc ta tc : Int) (M : List Lg) : Int × List Pc :=
  if isH cs = false then (3, []) else if (negR M).1 ≠ 0 then ((negR M).1, []) else
  if (chgHR (fun m => addL [m, (negR M).2]) cs fa fc).1 ≠ 0 then ((chgHR (fun m => addL [m, (negR M).2]) cs fa fc).1, [])
  else chgHR (fun m => addL [m, M]) (chgHR (fun m => addL [m, (negR M).2]) cs fa fc).2 ta tc
theorem moveP_form {cs : List Pc} {fa fc ta tc : Int} {M : List Lg} (h : isH cs = false) : moveP cs fa fc ta tc M = (3, []) := if_pos h
theorem moveP_neg {cs : List Pc} {fa fc ta tc n : Int} {M NL : List Lg} (h : isH cs = true) (h1 : negR M = (n, NL)) (hn : n ≠ 0) : moveP cs fa fc ta tc M = (n, []) := by
  unfold moveP; rw [if_neg (by simp [h]), h1, if_pos hn]
theorem moveP_one {cs X : List Pc} {fa fc ta tc n : Int} {M NL : List Lg} (h : isH cs = true) (h1 : negR M = (0, NL)) (h2 : chgHR (fun m => addL [m, NL]) cs fa fc = (n, X)) (hn : n ≠ 0) : moveP cs fa fc ta tc M = (n, []) := by
  unfold moveP; rw [if_neg (by simp [h]), h1, if_neg (by simp), h2, if_pos hn]
theorem moveP_ok {cs X : List Pc} {fa fc ta tc : Int} {M NL : List Lg} (h : isH cs = true) (h1 : negR M = (0, NL)) (h2 : chgHR (fun m => addL [m, NL]) cs fa fc = (0, X)) : moveP cs fa fc ta tc M = chgHR (fun m => addL [m, M]) X ta tc := by
  unfold moveP; rw [if_neg (by simp [h]), h1, if_neg (by simp), h2, if_neg (by simp)]
theorem legs_qty : ∀ (i : Int) (l : List Int), ∀ x ∈ legsF i l, x.qty ∈ l
  | _, [], x, h => by simp [legsF] at h
  | i, q :: r, x, h => by
    unfold legsF at h
    rcases List.mem_append.1 h with h | h
    · split at h
      · cases h
      · rw [List.mem_singleton.1 h]; exact List.mem_cons_self
    · exact List.mem_cons_of_mem _ (legs_qty (i + 1) r x h)
theorem ofR_in (l : List Int) : ∀ x ∈ (ofR l).2, In64 x.qty := by
  unfold ofR
  split
  · rename_i h
    intro x hx
    exact h _ (legs_qty 1 l x hx)
  · intro x hx; cases hx
theorem addL_in (L : List (List Lg)) : ∀ x ∈ (addL L).2, In64 x.qty := by
  unfold addL addR
  split
  · exact ofR_in _
  · intro x hx; cases hx
theorem addL_is (L : List (List Lg)) : isG (addL L).2 = true := addR_is _
theorem addL_len (L : List (List Lg)) : (addL L).2.length ≤ 8 := addR_len _
theorem chg_factsP {how : List Lg → Int × List Lg} {cs R : List Pc} {a c : Int} (h : chgHR how cs a c = (0, R)) : isH cs = true ∧ ∃ L, how (lotsH cs a c) = (0, L) ∧ R = withH cs a c L := by
  unfold chgHR at h
  split at h
  · injection h with h1; cases h1
  · rename_i hi
    split at h
    · rename_i hn
      injection h with h1; exact absurd h1 hn
    · rename_i hn
      injection h with _ e
      refine ⟨by simpa using hi, _, Prod.ext (by simpa using hn) rfl, e.symm⟩
theorem with_bdP {cs : List Pc} (hs : SoH cs) {n : Nat} (h : ∀ g ∈ cs, g.L.length ≤ n) (a c : Int) {L : List Lg} (hL : L.length ≤ n) : ∀ g ∈ withH cs a c L, g.L.length ≤ n := by
  intro g hg
  rcases (mem_with hs a c L g).1 hg with ⟨_, rfl⟩ | ⟨h1, _⟩
  · exact hL
  · exact h g h1
theorem shift_is {M : List Lg} {cs R : List Pc} {a c : Int} (h : chgHR (fun m => addL [m, M]) cs a c = (0, R)) : isH R = true ∧ ((∀ g ∈ cs, ∀ y ∈ g.L, In64 y.qty) → ∀ g ∈ R, ∀ y ∈ g.L, In64 y.qty) ∧ R.length ≤ cs.length + 1 ∧ (∀ n : Nat, 8 ≤ n → (∀ g ∈ cs, g.L.length ≤ n) → ∀ g ∈ R, g.L.length ≤ n) := by
  obtain ⟨hi, L, hL, rfl⟩ := chg_factsP h
  have e : L = (addL [lotsH cs a c, M]).2 := by rw [hL]
  have hs := isH_sorted hi
  refine ⟨with_is hi (by rw [e]; exact addL_is _) a c, fun h6 => with_in6 hs h6 (by rw [e]; exact addL_in _) a c, with_len a c L, fun n hn hc => with_bdP hs hc a c ?_⟩
  have := addL_len [lotsH cs a c, M]
  rw [e]; omega
theorem shift_bd {M : List Lg} {cs : List Pc} {a c : Int} {n : Nat} (hn : 8 ≤ n) (hc : ∀ g ∈ cs, g.L.length ≤ n) : (chgHR (fun m => addL [m, M]) cs a c).2.length ≤ cs.length + 1 ∧ ∀ g ∈ (chgHR (fun m => addL [m, M]) cs a c).2, g.L.length ≤ n := by
  unfold chgHR
  split
  · exact ⟨by simp, fun g hg => by cases hg⟩
  · rename_i hi
    have hs := isH_sorted (by simpa using hi)
    split
    · exact ⟨by simp, fun g hg => by cases hg⟩
    · exact ⟨with_len _ _ _, with_bdP hs hc a c (Nat.le_trans (addL_len _) hn)⟩
theorem moveP_bd {M : List Lg} {cs : List Pc} {fa fc ta tc : Int} {n : Nat} (hn : 8 ≤ n) (hc : ∀ g ∈ cs, g.L.length ≤ n) : (moveP cs fa fc ta tc M).2.length ≤ cs.length + 2 ∧ ∀ g ∈ (moveP cs fa fc ta tc M).2, g.L.length ≤ n := by
  unfold moveP
  split
  · exact ⟨by simp, fun g hg => by cases hg⟩
  · split
    · exact ⟨by simp, fun g hg => by cases hg⟩
    · split
      · exact ⟨by simp, fun g hg => by cases hg⟩
      · obtain ⟨h1, h2⟩ := shift_bd (M := (negR M).2) (a := fa) (c := fc) hn hc
        obtain ⟨h3, h4⟩ := shift_bd (M := M) (a := ta) (c := tc) hn h2
        exact ⟨by omega, h4⟩
set_option maxHeartbeats 8000000 in
set_option maxRecDepth 100000 in
theorem bmove_any (A : Option Addr) (cap : Nat) (l : List Po) (cs : List Pc) (fa fc ta tc : Int) (LA : Option Addr) (LC : Nat) (M : List Lg) (w : World) (hl : l.length ≤ 800000) (hcl : ∀ g ∈ cs, g.L.length ≤ 400000) (h6 : ∀ g ∈ cs, ∀ y ∈ g.L, In64 y.qty) (hMl : M.length ≤ 400000) (hM6 : ∀ y ∈ M, In64 y.qty) (hs : Sl w A (rc Po.cells l)) (ht : PoTab w l cs) (hM : Sl w LA (rc Lg.cells M)) :
    Calls Try.prog 37 #[.slice A l.length cap, .agg #[.int .i64 fa, .int .i64 fc], .agg #[.int .i64 ta, .int .i64 tc], .slice LA M.length LC] w fun e w' => HRes w' e (moveP cs fa fc ta tc M) ∧ Below w.heap.size w w' := by
  have hB0 := since_alloc (since_alloc (Below.refl _ w) (.cells #[.int .i64 fa, .int .i64 fc] 24)) (.cells #[.int .i64 ta, .int .i64 tc] 24)
  have hK1 := (Bk.new w #[.int .i64 fa, .int .i64 fc] 24).alloc (.cells #[.int .i64 ta, .int .i64 tc] 24)
  have hK2 := Bk.new (w.alloc (.cells #[.int .i64 fa, .int .i64 fc] 24)) #[.int .i64 ta, .int .i64 tc] 24
  rw [World.size_alloc] at hK2
  have hcl9 : ∀ g ∈ cs, g.L.length ≤ 900000 := fun g hg => Nat.le_trans (hcl g hg) (by omega)
  have hl9 : l.length ≤ 900000 := by omega
  have HIS := Lib.hid (his_any A cap l cs _ hl9 hcl9 ((hs.alloc (.cells #[.int .i64 fa, .int .i64 fc] 24)).alloc (.cells #[.int .i64 ta, .int .i64 tc] 24)) (ht.below hB0))
  have HSL : Hid (∀ V, Below w.heap.size w V → Sl V A (rc Po.cells l)) := Lib.hid fun V hV => hs.below hV
  have HTB : Hid (∀ V, Below w.heap.size w V → PoTab V l cs) := Lib.hid fun V hV => ht.below hV
  have HSM : Hid (∀ V, Below w.heap.size w V → Sl V LA (rc Lg.cells M)) := Lib.hid fun V hV => hM.below hV
  have HNG := Lib.hid (fun V h => vneg_any LA LC M V (by omega) hM6 h)
  have hnl := negR_len M
  have HLC := Lib.hid ht.1
  obtain ⟨nn, NL, hN⟩ : ∃ n L, negR M = (n, L) := ⟨_, _, rfl⟩
  rw [hN] at HNG hnl
  unfold GRes at HNG
  simp only at HNG hnl
  clear hs ht hM
  cases hi : isH cs with
  | false =>
    have HR := Lib.hid (moveP_form (fa := fa) (fc := fc) (ta := ta) (tc := tc) (M := M) hi)
    rw [hi] at HIS
    clear hi hN
    go_enter Try.func37, Try.ntmps37
    go_wp2_with fail
    refine HIS.out.mono ?_
    rintro e w1 ⟨rfl, hb⟩
    have hB := since_step hB0 hb
    have hK1 := hK1.below hb
    have hK2 := hK2.below hb
    clear hb
    go_wp2_with fail
    go_ret2
    rw [HR.out]
    exact ⟨HRes.nil _ _, hB⟩
  | true =>
    rw [hi] at HIS
    by_cases hn : nn = 0
    rotate_left
    · have HR := Lib.hid (moveP_neg (fa := fa) (fc := fc) (ta := ta) (tc := tc) hi hN hn)
      have hnb : (nn != 0) = true := by simpa using hn
      have hnb2 : (nn == 0) = false := by simpa using hn
      clear hi hN hn
      go_enter Try.func37, Try.ntmps37
      go_wp2_with fail
      refine HIS.out.mono ?_
      rintro e w1 ⟨rfl, hb⟩
      have hB := since_step hB0 hb
      have hK1 := hK1.below hb
      have hK2 := hK2.below hb
      clear hb
      go_wp2_with fail
      refine (HNG.out _ (HSM.out _ hB)).mono ?_
      rintro e w2 ⟨⟨A1, c1, rfl, o1⟩, hb⟩
      have hB := since_step hB hb
      have hK1 := hK1.below hb
      have hK2 := hK2.below hb
      have h1 := Sl.of_own o1
      have ck := hK1.2; have k0 := ck 0; have k1 := ck 1; simp at k0 k1; clear ck
      clear hb o1
      go_wp2_with fail
      go_ret2
      rw [HR.out]
      exact ⟨HRes.nil _ _, hB⟩
    · subst hn
      have hNL : NL = negG M ∧ ∀ x ∈ M, In64 (-x.qty) := by
        have h := negR_ok (l := M) (by rw [hN])
        rw [hN] at h
        exact ⟨h.2.1, h.2.2⟩
      have hN6 : ∀ y ∈ NL, In64 y.qty := by
        intro y hy
        rw [hNL.1] at hy
        obtain ⟨x, hx, rfl⟩ := List.mem_map.1 hy
        exact hNL.2 x hx
      have hNl : NL.length ≤ 400000 := by omega
      have HS1 := Lib.hid (fun A1 c1 V h1 h2 h3 => bshift_any A cap l cs fa fc A1 c1 NL V hl9 hcl h6 hNl hN6 h1 h2 h3)
      obtain ⟨xn, XL, hX⟩ : ∃ n L, chgHR (fun m => addL [m, NL]) cs fa fc = (n, L) := ⟨_, _, rfl⟩
      rw [hX] at HS1
      unfold HRes at HS1
      simp only at HS1
      by_cases hm : xn = 0
      rotate_left
      · have HR := Lib.hid (moveP_one (ta := ta) (tc := tc) hi hN hX hm)
        have hnb : (xn != 0) = true := by simpa using hm
        have hnb2 : (xn == 0) = false := by simpa using hm
        clear hi hN hm hX hNL
        go_enter Try.func37, Try.ntmps37
        go_wp2_with fail
        refine HIS.out.mono ?_
        rintro e w1 ⟨rfl, hb⟩
        have hB := since_step hB0 hb
        have hK1 := hK1.below hb
        have hK2 := hK2.below hb
        clear hb
        go_wp2_with fail
        refine (HNG.out _ (HSM.out _ hB)).mono ?_
        rintro e w2 ⟨⟨A1, c1, rfl, o1⟩, hb⟩
        have hB := since_step hB hb
        have hK1 := hK1.below hb
        have hK2 := hK2.below hb
        have h1 := Sl.of_own o1
        have ck := hK1.2; have k0 := ck 0; have k1 := ck 1; simp at k0 k1; clear ck
        clear hb o1
        go_wp2_with fail
        refine (HS1.out A1 c1 _ (HSL.out _ hB) (HTB.out _ hB) h1).mono ?_
        rintro e w3 ⟨⟨l2, A2, c2, rfl, hs2, ht2, _⟩, hb⟩
        have hB := since_step hB hb
        have hK2 := hK2.below hb
        have ck := hK2.2; have k2 := ck 0; have k3 := ck 1; simp at k2 k3; clear ck
        clear hb k0 k1 h1
        go_wp2_with fail
        go_ret2
        rw [HR.out]
        exact ⟨HRes.nil _ _, hB⟩
      · subst hm
        have HR := Lib.hid (moveP_ok (ta := ta) (tc := tc) hi hN hX)
        obtain ⟨hXi, hX6, hXl, hXc⟩ := shift_is hX
        have hX6 := hX6 h6
        have hXc := hXc 400000 (by omega) hcl
        have HXL : Hid (XL.length ≤ 900000) := Lib.hid (by have := HLC.out; omega)
        have HS2 := Lib.hid (fun A2 c2 l2 V hl2 h1 h2 h3 => bshift_any A2 c2 l2 XL ta tc LA LC M V hl2 hXc hX6 hMl hM6 h1 h2 h3)
        generalize chgHR (fun m => addL [m, M]) XL ta tc = RR at *
        obtain ⟨pn, PL⟩ := RR
        unfold HRes at HS2
        simp only at HS2
        clear hi hN hX hNL hXi hX6 hXl hXc hNl hN6
        go_enter Try.func37, Try.ntmps37
        go_wp2_with fail
        refine HIS.out.mono ?_
        rintro e w1 ⟨rfl, hb⟩
        have hB := since_step hB0 hb
        have hK1 := hK1.below hb
        have hK2 := hK2.below hb
        clear hb
        go_wp2_with fail
        refine (HNG.out _ (HSM.out _ hB)).mono ?_
        rintro e w2 ⟨⟨A1, c1, rfl, o1⟩, hb⟩
        have hB := since_step hB hb
        have hK1 := hK1.below hb
        have hK2 := hK2.below hb
        have h1 := Sl.of_own o1
        have ck := hK1.2; have k0 := ck 0; have k1 := ck 1; simp at k0 k1; clear ck
        clear hb o1
        go_wp2_with fail
        refine (HS1.out A1 c1 _ (HSL.out _ hB) (HTB.out _ hB) h1).mono ?_
        rintro e w3 ⟨⟨l2, A2, c2, rfl, hs2, ht2, _⟩, hb⟩
        have hB := since_step hB hb
        have hK2 := hK2.below hb
        have ck := hK2.2; have k2 := ck 0; have k3 := ck 1; simp at k2 k3; clear ck
        clear hb k0 k1 h1
        have HS3 := Lib.hid (HS2.out A2 c2 l2 w3 (by have := ht2.1; have := HXL.out; omega) hs2 ht2 (HSM.out _ hB))
        clear hs2 ht2
        go_wp2_with fail
        refine HS3.out.mono ?_
        rintro e w4 ⟨⟨l4, A4, c4, rfl, hs4, ht4, hc4⟩, hb⟩
        have hB := since_step hB hb
        go_wp2_with fail
        go_ret2
        rw [HR.out]
        exact ⟨⟨l4, A4, c4, rfl, hs4, ht4, hc4⟩, hB⟩
set_option maxHeartbeats 8000000 in
set_option maxRecDepth 100000 in
theorem rbmove_any (A : Option Addr) (cap : Nat) (l : List Po) (cs : List Pc) (fa fc ta tc : Int) (LA : Option Addr) (LC : Nat) (M : List Lg) (w : World) (hl : l.length ≤ 800000) (hcl : ∀ g ∈ cs, g.L.length ≤ 400000) (h6 : ∀ g ∈ cs, ∀ y ∈ g.L, In64 y.qty) (hMl : M.length ≤ 400000) (hM6 : ∀ y ∈ M, In64 y.qty) (hs : Sl w A (rc Po.cells l)) (ht : PoTab w l cs) (hM : Sl w LA (rc Lg.cells M)) :
    Calls Try.prog 38 #[.slice A l.length cap, .agg #[.int .i64 fa, .int .i64 fc], .agg #[.int .i64 ta, .int .i64 tc], .slice LA M.length LC] w fun e w' => HRes w' e (moveP cs fa fc ta tc M) ∧ Below w.heap.size w w' := by
  have hB0 := since_alloc (since_alloc (Below.refl _ w) (.cells #[.int .i64 fa, .int .i64 fc] 24)) (.cells #[.int .i64 ta, .int .i64 tc] 24)
  have hK1 := (Bk.new w #[.int .i64 fa, .int .i64 fc] 24).alloc (.cells #[.int .i64 ta, .int .i64 tc] 24)
  have hK2 := Bk.new (w.alloc (.cells #[.int .i64 fa, .int .i64 fc] 24)) #[.int .i64 ta, .int .i64 tc] 24
  rw [World.size_alloc] at hK2
  have hcl9 : ∀ g ∈ cs, g.L.length ≤ 900000 := fun g hg => Nat.le_trans (hcl g hg) (by omega)
  have hl9 : l.length ≤ 900000 := by omega
  have HIS := Lib.hid (rhis_any A cap l cs _ hl9 hcl9 ((hs.alloc (.cells #[.int .i64 fa, .int .i64 fc] 24)).alloc (.cells #[.int .i64 ta, .int .i64 tc] 24)) (ht.below hB0))
  have HSL : Hid (∀ V, Below w.heap.size w V → Sl V A (rc Po.cells l)) := Lib.hid fun V hV => hs.below hV
  have HTB : Hid (∀ V, Below w.heap.size w V → PoTab V l cs) := Lib.hid fun V hV => ht.below hV
  have HSM : Hid (∀ V, Below w.heap.size w V → Sl V LA (rc Lg.cells M)) := Lib.hid fun V hV => hM.below hV
  have HNG := Lib.hid (fun V h => rvneg_any LA LC M V (by omega) hM6 h)
  have hnl := negR_len M
  have HLC := Lib.hid ht.1
  obtain ⟨nn, NL, hN⟩ : ∃ n L, negR M = (n, L) := ⟨_, _, rfl⟩
  rw [hN] at HNG hnl
  unfold GRes at HNG
  simp only at HNG hnl
  clear hs ht hM
  cases hi : isH cs with
  | false =>
    have HR := Lib.hid (moveP_form (fa := fa) (fc := fc) (ta := ta) (tc := tc) (M := M) hi)
    rw [hi] at HIS
    clear hi hN
    go_enter Try.func38, Try.ntmps38
    go_wp2_with fail
    refine HIS.out.mono ?_
    rintro e w1 ⟨rfl, hb⟩
    have hB := since_step hB0 hb
    have hK1 := hK1.below hb
    have hK2 := hK2.below hb
    clear hb
    go_wp2_with fail
    go_ret2
    rw [HR.out]
    exact ⟨HRes.nil _ _, hB⟩
  | true =>
    rw [hi] at HIS
    by_cases hn : nn = 0
    rotate_left
    · have HR := Lib.hid (moveP_neg (fa := fa) (fc := fc) (ta := ta) (tc := tc) hi hN hn)
      have hnb : (nn != 0) = true := by simpa using hn
      have hnb2 : (nn == 0) = false := by simpa using hn
      clear hi hN hn
      go_enter Try.func38, Try.ntmps38
      go_wp2_with fail
      refine HIS.out.mono ?_
      rintro e w1 ⟨rfl, hb⟩
      have hB := since_step hB0 hb
      have hK1 := hK1.below hb
      have hK2 := hK2.below hb
      clear hb
      go_wp2_with fail
      refine (HNG.out _ (HSM.out _ hB)).mono ?_
      rintro e w2 ⟨⟨A1, c1, rfl, o1⟩, hb⟩
      have hB := since_step hB hb
      have hK1 := hK1.below hb
      have hK2 := hK2.below hb
      have h1 := Sl.of_own o1
      have ck := hK1.2; have k0 := ck 0; have k1 := ck 1; simp at k0 k1; clear ck
      clear hb o1
      go_wp2_with fail
      go_ret2
      rw [HR.out]
      exact ⟨HRes.nil _ _, hB⟩
    · subst hn
      have hNL : NL = negG M ∧ ∀ x ∈ M, In64 (-x.qty) := by
        have h := negR_ok (l := M) (by rw [hN])
        rw [hN] at h
        exact ⟨h.2.1, h.2.2⟩
      have hN6 : ∀ y ∈ NL, In64 y.qty := by
        intro y hy
        rw [hNL.1] at hy
        obtain ⟨x, hx, rfl⟩ := List.mem_map.1 hy
        exact hNL.2 x hx
      have hNl : NL.length ≤ 400000 := by omega
      have HS1 := Lib.hid (fun A1 c1 V h1 h2 h3 => rshift_any A cap l cs fa fc A1 c1 NL V hl9 hcl h6 hNl hN6 h1 h2 h3)
      obtain ⟨xn, XL, hX⟩ : ∃ n L, chgHR (fun m => addL [m, NL]) cs fa fc = (n, L) := ⟨_, _, rfl⟩
      rw [hX] at HS1
      unfold HRes at HS1
      simp only at HS1
      by_cases hm : xn = 0
      rotate_left
      · have HR := Lib.hid (moveP_one (ta := ta) (tc := tc) hi hN hX hm)
        have hnb : (xn != 0) = true := by simpa using hm
        have hnb2 : (xn == 0) = false := by simpa using hm
        clear hi hN hm hX hNL
        go_enter Try.func38, Try.ntmps38
        go_wp2_with fail
        refine HIS.out.mono ?_
        rintro e w1 ⟨rfl, hb⟩
        have hB := since_step hB0 hb
        have hK1 := hK1.below hb
        have hK2 := hK2.below hb
        clear hb
        go_wp2_with fail
        refine (HNG.out _ (HSM.out _ hB)).mono ?_
        rintro e w2 ⟨⟨A1, c1, rfl, o1⟩, hb⟩
        have hB := since_step hB hb
        have hK1 := hK1.below hb
        have hK2 := hK2.below hb
        have h1 := Sl.of_own o1
        have ck := hK1.2; have k0 := ck 0; have k1 := ck 1; simp at k0 k1; clear ck
        clear hb o1
        go_wp2_with fail
        refine (HS1.out A1 c1 _ (HSL.out _ hB) (HTB.out _ hB) h1).mono ?_
        rintro e w3 ⟨⟨l2, A2, c2, rfl, hs2, ht2, _⟩, hb⟩
        have hB := since_step hB hb
        have hK2 := hK2.below hb
        have ck := hK2.2; have k2 := ck 0; have k3 := ck 1; simp at k2 k3; clear ck
        clear hb k0 k1 h1
        go_wp2_with fail
        go_ret2
        rw [HR.out]
        exact ⟨HRes.nil _ _, hB⟩
      · subst hm
        have HR := Lib.hid (moveP_ok (ta := ta) (tc := tc) hi hN hX)
        obtain ⟨hXi, hX6, hXl, hXc⟩ := shift_is hX
        have hX6 := hX6 h6
        have hXc := hXc 400000 (by omega) hcl
        have HXL : Hid (XL.length ≤ 900000) := Lib.hid (by have := HLC.out; omega)
        have HS2 := Lib.hid (fun A2 c2 l2 V hl2 h1 h2 h3 => rshift_any A2 c2 l2 XL ta tc LA LC M V hl2 hXc hX6 hMl hM6 h1 h2 h3)
        generalize chgHR (fun m => addL [m, M]) XL ta tc = RR at *
        obtain ⟨pn, PL⟩ := RR
        unfold HRes at HS2
        simp only at HS2
        clear hi hN hX hNL hXi hX6 hXl hXc hNl hN6
        go_enter Try.func38, Try.ntmps38
        go_wp2_with fail
        refine HIS.out.mono ?_
        rintro e w1 ⟨rfl, hb⟩
        have hB := since_step hB0 hb
        have hK1 := hK1.below hb
        have hK2 := hK2.below hb
        clear hb
        go_wp2_with fail
        refine (HNG.out _ (HSM.out _ hB)).mono ?_
        rintro e w2 ⟨⟨A1, c1, rfl, o1⟩, hb⟩
        have hB := since_step hB hb
        have hK1 := hK1.below hb
        have hK2 := hK2.below hb
        have h1 := Sl.of_own o1
        have ck := hK1.2; have k0 := ck 0; have k1 := ck 1; simp at k0 k1; clear ck
        clear hb o1
        go_wp2_with fail
        refine (HS1.out A1 c1 _ (HSL.out _ hB) (HTB.out _ hB) h1).mono ?_
        rintro e w3 ⟨⟨l2, A2, c2, rfl, hs2, ht2, _⟩, hb⟩
        have hB := since_step hB hb
        have hK2 := hK2.below hb
        have ck := hK2.2; have k2 := ck 0; have k3 := ck 1; simp at k2 k3; clear ck
        clear hb k0 k1 h1
        have HS3 := Lib.hid (HS2.out A2 c2 l2 w3 (by have := ht2.1; have := HXL.out; omega) hs2 ht2 (HSM.out _ hB))
        clear hs2 ht2
        go_wp2_with fail
        refine HS3.out.mono ?_
        rintro e w4 ⟨⟨l4, A4, c4, rfl, hs4, ht4, hc4⟩, hb⟩
        have hB := since_step hB hb
        go_wp2_with fail
        go_ret2
        rw [HR.out]
        exact ⟨⟨l4, A4, c4, rfl, hs4, ht4, hc4⟩, hB⟩
end Go.Proofs.Ytldnponbkhgijaa
end
section
namespace Go.Proofs.Ytldnponbkhgijaa
open Go.ChangeShapes Go.WideShapes Go.ChangeAt Go.RowKit
set_option linter.unusedVariables false
set_option linter.unusedSimpArgs false

theorem getG_legs : ∀ (l : List Int) (i : Int) (k : Nat) (h : k < l.length), getG (legsF i l) (i + (k : Int)) = l[k]
  | [], _, k, h => by simp at h
  | q :: r, i, 0, h => by
    have hn : getG (legsF (i + 1) r) (i + ((0 : Nat) : Int)) = 0 := getG_none fun x hx => by
      have := legs_mem (i + 1) r x hx
      omega
    rw [legsF]
    by_cases hq : q = 0
    · rw [if_pos hq, List.nil_append, hn]; simp [hq]
    · rw [if_neg hq, List.cons_append, List.nil_append, getG_cons, if_pos (by simp)]; simp
  | q :: r, i, k + 1, h => by
    have ih := getG_legs r (i + 1) k (by simpa using h)
    have e : i + ((k + 1 : Nat) : Int) = i + 1 + (k : Int) := by omega
    rw [legsF, e]
    by_cases hq : q = 0
    · rw [if_pos hq, List.nil_append, ih]; simp
    · rw [if_neg hq, List.cons_append, List.nil_append, getG_cons, if_neg (by simp only; omega), ih]; simp
theorem addL_get {a b L : List Lg} (h : addL [a, b] = (0, L)) : isG a = true ∧ isG b = true ∧ ∀ t : Int, 1 ≤ t → t ≤ 8 → getG L t = getG a t + getG b t := by
  rw [sum_two] at h
  split at h
  · rename_i hg
    refine ⟨hg.1, hg.2, fun t h1 h8 => ?_⟩
    unfold ofR at h
    split at h
    · injection h with _ e
      subst e
      have hk : (t - 1).toNat < ((List.range 8).map fun j : Nat => getG a ((j : Int) + 1) + getG b ((j : Int) + 1)).length := by simp; omega
      have hg := getG_legs _ 1 (t - 1).toNat hk
      have ht : (1 : Int) + ((t - 1).toNat : Int) = t := by omega
      rw [ht] at hg
      rw [hg]
      have ht2 : (((t - 1).toNat : Nat) : Int) + 1 = t := by omega
      simp only [List.getElem_map, List.getElem_range, ht2]
    · injection h with h1; cases h1
  · injection h with h1; cases h1
theorem vec_ext {a b : List Lg} (ha : isG a = true) (hb : isG b = true) (h : ∀ t : Int, 1 ≤ t → t ≤ 8 → getG a t = getG b t) : a = b := by
  obtain ⟨a1, a2⟩ := (isG_iff a).1 ha
  obtain ⟨b1, b2⟩ := (isG_iff b).1 hb
  have ea := legs_back 8 1 a a2 (fun x hx => ⟨(a1 x hx).1, by have := (a1 x hx).2.1; omega, (a1 x hx).2.2⟩)
  have eb := legs_back 8 1 b b2 (fun x hx => ⟨(b1 x hx).1, by have := (b1 x hx).2.1; omega, (b1 x hx).2.2⟩)
  rw [← ea, ← eb]
  congr 1
  refine List.map_congr_left fun j hj => ?_
  have := List.mem_range.1 hj
  exact h _ (by omega) (by omega)
theorem getG_nil (t : Int) : getG [] t = 0 := rfl
theorem sums_consP (b : Pc) (r : List Pc) (t : Int) : (sumsH (b :: r) t).sum = getG b.L t + (sumsH r t).sum := by simp [sumsH]
theorem lots_consP (b : Pc) (r : List Pc) (a c : Int) : lotsH (b :: r) a c = if unH a c b = true then b.L else lotsH r a c := by
  unfold lotsH
  rw [List.find?_cons]
  cases h : unH a c b <;> simp
theorem sums_filterP {cs : List Pc} (h : SoH cs) (a c t : Int) : (sumsH cs t).sum = (sumsH (cs.filter fun g => !unH a c g) t).sum + getG (lotsH cs a c) t := by
  induction cs with
  | nil => simp [sumsH, lotsH, getG_nil]
  | cons b r ih =>
    have ih := ih h.of_cons
    rw [lots_consP, sums_consP]
    by_cases hu : unH a c b = true
    · rw [if_pos hu, List.filter_cons_of_neg (by simp [hu]), List.filter_eq_self.2 (fun z hz => by simp [none_afterP h hu z hz])]
      omega
    · rw [if_neg hu, List.filter_cons_of_pos (by simpa using hu), sums_consP]
      omega
theorem sums_putP {cs : List Pc} (h : SoH cs) (a c t : Int) (L : List Lg) : (sumsH (putR ahH cs ⟨a, c, L⟩) t).sum = (sumsH (cs.filter fun g => !unH a c g) t).sum + getG L t := by
  induction cs with
  | nil => rw [putR, sums_consP]; simp [sumsH]
  | cons b r ih =>
    have ih := ih h.of_cons
    unfold putR
    split
    · rename_i h1
      have hn : unH a c b = false := by rw [unH_no]; rw [ahH_iff] at h1; simp only at h1; omega
      rw [List.filter_cons_of_pos (by simp [hn]), sums_consP, sums_consP, ih]
      omega
    · rename_i h1
      split
      · rename_i h2
        have hall : ∀ z ∈ b :: r, unH a c z = false := by
          intro z hz
          have hxz : ahH ⟨a, c, L⟩ z = true := by
            rcases List.mem_cons.1 hz with rfl | hz
            · exact h2
            · exact ordH.tr _ _ _ h2 (List.rel_of_pairwise_cons h hz)
          rw [unH_no]; rw [ahH_iff] at hxz; simp only at hxz; omega
        rw [List.filter_eq_self.2 (fun z hz => by simp [hall z hz]), sums_consP]
        simp only
        omega
      · rename_i h2
        rw [ahH_iff] at h1 h2
        simp only at h1 h2
        have hbu : unH a c b = true := by rw [unH_iff]; omega
        rw [List.filter_cons_of_neg (by simp [hbu]), List.filter_eq_self.2 (fun z hz => by simp [none_afterP h hbu z hz]), sums_consP]
        simp only
        omega
theorem sums_withP {cs : List Pc} (h : SoH cs) (a c t : Int) (L : List Lg) : (sumsH (withH cs a c L) t).sum = (sumsH cs t).sum - getG (lotsH cs a c) t + getG L t := by
  have h1 := sums_filterP h a c t
  unfold withH
  split
  · rename_i hL
    subst hL
    have : getG [] t = 0 := rfl
    omega
  · rw [sums_putP h]; omega
theorem lots_with_selfP {cs : List Pc} (h : SoH cs) (a c : Int) (L : List Lg) : lotsH (withH cs a c L) a c = L := by
  by_cases hL : L = []
  · subst hL
    rcases lots_cases (withH cs a c []) a c with ⟨e, _⟩ | ⟨x, hx, e1, e2, e⟩
    · exact e
    · rcases (mem_with h a c [] x).1 hx with ⟨h1, _⟩ | ⟨_, h1⟩
      · exact absurd rfl h1
      · rw [unH_no] at h1; exact absurd ⟨e1, e2⟩ h1
  · exact lots_mem (x := ⟨a, c, L⟩) (with_sorted h a c L) ((mem_with h a c L _).2 (.inl ⟨hL, rfl⟩))
theorem lots_with_otherP {cs : List Pc} (h : SoH cs) {a c a' c' : Int} (hne : ¬ (a' = a ∧ c' = c)) (L : List Lg) : lotsH (withH cs a c L) a' c' = lotsH cs a' c' := by
  have hs := with_sorted h a c L
  rcases lots_cases cs a' c' with ⟨e, hno⟩ | ⟨x, hx, e1, e2, e⟩
  · rw [e]
    rcases lots_cases (withH cs a c L) a' c' with ⟨e, _⟩ | ⟨x, hx, e1, e2, _⟩
    · exact e
    · rcases (mem_with h a c L x).1 hx with ⟨_, rfl⟩ | ⟨h1, _⟩
      · exact absurd ⟨e1.symm, e2.symm⟩ hne
      · have := hno x h1
        rw [unH_no] at this; exact absurd ⟨e1, e2⟩ this
  · subst e1; subst e2
    rw [lots_mem h hx]
    exact lots_mem hs ((mem_with h a c L x).2 (.inr ⟨hx, by rw [unH_no]; exact hne⟩))
theorem book_ext {A B : List Pc} (hA : isH A = true) (hB : isH B = true) (h : ∀ a c, lotsH A a c = lotsH B a c) : A = B := by
  have key : ∀ {A B : List Pc}, isH A = true → isH B = true → (∀ a c, lotsH A a c = lotsH B a c) → ∀ x ∈ A, x ∈ B := by
    intro A B hA hB h x hx
    have h1 := lots_mem (isH_sorted hA) hx
    have h2 := ((okH_iff x).1 (((isH_iff A).1 hA).1 x hx)).1
    rw [h] at h1
    rcases lots_cases B x.ac x.cl with ⟨e, _⟩ | ⟨y, hy, e1, e2, e⟩
    · rw [e] at h1; exact absurd h1.symm h2
    · have : x = y := by
        obtain ⟨xa, xc, xL⟩ := x
        obtain ⟨ya, yc, yL⟩ := y
        simp only at e1 e2 e h1
        rw [e] at h1
        rw [← h1, e1, e2]
      rw [this]; exact hy
  exact sorted_ext ordH _ _ (isH_sorted hA) (isH_sorted hB) fun x => ⟨key hA hB h x, key hB hA (fun a c => (h a c).symm) x⟩
theorem shift_get {M : List Lg} {cs R : List Pc} {a c : Int} (h : chgHR (fun m => addL [m, M]) cs a c = (0, R)) (a' c' t : Int) (h1 : 1 ≤ t) (h8 : t ≤ 8) : getG (lotsH R a' c') t = getG (lotsH cs a' c') t + if a' = a ∧ c' = c then getG M t else 0 := by
  obtain ⟨hi, L, hL, rfl⟩ := chg_factsP h
  have hs := isH_sorted hi
  obtain ⟨_, _, hg⟩ := addL_get hL
  split
  · rename_i he
    obtain ⟨rfl, rfl⟩ := he
    rw [lots_with_selfP hs, hg t h1 h8]
  · rename_i he
    rw [lots_with_otherP hs he]; omega
theorem shift_sum {M : List Lg} {cs R : List Pc} {a c : Int} (h : chgHR (fun m => addL [m, M]) cs a c = (0, R)) (t : Int) (h1 : 1 ≤ t) (h8 : t ≤ 8) : (sumsH R t).sum = (sumsH cs t).sum + getG M t := by
  obtain ⟨hi, L, hL, rfl⟩ := chg_factsP h
  obtain ⟨_, _, hg⟩ := addL_get hL
  rw [sums_withP (isH_sorted hi), hg t h1 h8]
  omega
theorem shift_other {M : List Lg} {cs R : List Pc} {a c oa oc : Int} (h : chgHR (fun m => addL [m, M]) cs a c = (0, R)) (hne : ¬ (oa = a ∧ oc = c)) : lotsH R oa oc = lotsH cs oa oc := by
  obtain ⟨hi, L, hL, rfl⟩ := chg_factsP h
  exact lots_with_otherP (isH_sorted hi) hne L
theorem movP_facts {M : List Lg} {cs R : List Pc} {fa fc ta tc : Int} (h : moveP cs fa fc ta tc M = (0, R)) : ∃ X, chgHR (fun m => addL [m, negG M]) cs fa fc = (0, X) ∧ chgHR (fun m => addL [m, M]) X ta tc = (0, R) := by
  unfold moveP at h
  split at h
  · injection h with h1; cases h1
  · split at h
    · rename_i hn
      injection h with h1; exact absurd h1 hn
    · rename_i hn
      have hn : (negR M).1 = 0 := by simpa using hn
      rw [(negR_ok hn).2.1] at h
      split at h
      · rename_i hm
        injection h with h1; exact absurd h1 hm
      · rename_i hm
        exact ⟨_, Prod.ext (by simpa using hm) rfl, h⟩
theorem movP_is {M : List Lg} {cs R : List Pc} {fa fc ta tc : Int} (h : moveP cs fa fc ta tc M = (0, R)) : isH cs = true ∧ isH R = true ∧ ((∀ g ∈ cs, ∀ y ∈ g.L, In64 y.qty) → ∀ g ∈ R, ∀ y ∈ g.L, In64 y.qty) ∧ R.length ≤ cs.length + 2 ∧ (∀ n : Nat, 8 ≤ n → (∀ g ∈ cs, g.L.length ≤ n) → ∀ g ∈ R, g.L.length ≤ n) := by
  obtain ⟨X, h1, h2⟩ := movP_facts h
  obtain ⟨a1, a2, a3, a4⟩ := shift_is h1
  obtain ⟨b1, b2, b3, b4⟩ := shift_is h2
  exact ⟨(chg_factsP h1).1, b1, fun h => b2 (a2 h), by omega, fun n hn hc => b4 n hn (a4 n hn hc)⟩
theorem movP_sum {M : List Lg} {cs R : List Pc} {fa fc ta tc : Int} (h : moveP cs fa fc ta tc M = (0, R)) (t : Int) (h1 : 1 ≤ t) (h8 : t ≤ 8) : (sumsH R t).sum = (sumsH cs t).sum := by
  obtain ⟨X, e1, e2⟩ := movP_facts h
  rw [shift_sum e2 t h1 h8, shift_sum e1 t h1 h8, getG_neg]
  omega
theorem movP_other {M : List Lg} {cs R : List Pc} {fa fc ta tc oa oc : Int} (h : moveP cs fa fc ta tc M = (0, R)) (h1 : ¬ (oa = fa ∧ oc = fc)) (h2 : ¬ (oa = ta ∧ oc = tc)) : lotsH R oa oc = lotsH cs oa oc := by
  obtain ⟨X, e1, e2⟩ := movP_facts h
  rw [shift_other e2 h2, shift_other e1 h1]
theorem movP_back {M : List Lg} {cs R B : List Pc} {fa fc ta tc : Int} (h : moveP cs fa fc ta tc M = (0, R)) (h2 : moveP R ta tc fa fc M = (0, B)) : B = cs := by
  have hi := (movP_is h).1
  have hB := (movP_is h2).2.1
  obtain ⟨X, e1, e2⟩ := movP_facts h
  obtain ⟨Y, e3, e4⟩ := movP_facts h2
  refine book_ext hB hi fun a c => vec_ext (lots_is hB a c) (lots_is hi a c) fun t h1 h8 => ?_
  rw [shift_get e4 a c t h1 h8, shift_get e3 a c t h1 h8, shift_get e2 a c t h1 h8, shift_get e1 a c t h1 h8, getG_neg]
  split <;> split <;> omega
theorem chg_errP {how : List Lg → Int × List Lg} {cs R : List Pc} {a c n : Int} (h : chgHR how cs a c = (n, R)) (hn : n ≠ 0) : R = [] := by
  unfold chgHR at h
  split at h
  · exact (Prod.mk.inj h).2.symm
  · split at h
    · exact (Prod.mk.inj h).2.symm
    · exact absurd (Prod.mk.inj h).1.symm hn
theorem movP_err {M : List Lg} {cs R : List Pc} {fa fc ta tc n : Int} (h : moveP cs fa fc ta tc M = (n, R)) (hn : n ≠ 0) : R = [] := by
  unfold moveP at h
  split at h
  · exact (Prod.mk.inj h).2.symm
  · split at h
    · exact (Prod.mk.inj h).2.symm
    · split at h
      · exact (Prod.mk.inj h).2.symm
      · exact chg_errP h hn
def balP (cs : List Pc) : Bool := decide (∀ j ∈ List.range 8, (sumsH cs ((j : Int) + 1)).sum = 0)
theorem balP_no {cs : List Pc} {k : Nat} (h1 : 1 ≤ k) (h8 : k ≤ 8) (h : (sumsH cs (k : Int)).sum ≠ 0) : balP cs = false := by
  unfold balP
  rw [decide_eq_false_iff_not]
  intro hall
  have := hall (k - 1) (List.mem_range.2 (by omega))
  rw [show (((k - 1 : Nat) : Int) + 1) = (k : Int) by omega] at this
  exact h this
theorem balP_yes {cs : List Pc} (h : ∀ j : Nat, 1 ≤ j → j ≤ 8 → (sumsH cs (j : Int)).sum = 0) : balP cs = true := by
  unfold balP
  rw [decide_eq_true_iff]
  intro j hj
  have := List.mem_range.1 hj
  have := h (j + 1) (by omega) (by omega)
  simpa using this
theorem balP_same {cs R : List Pc} (h : ∀ t : Int, 1 ≤ t → t ≤ 8 → (sumsH R t).sum = (sumsH cs t).sum) : balP R = balP cs := by
  unfold balP
  rw [decide_eq_decide]
  constructor
  · intro h2 j hj
    have := List.mem_range.1 hj
    rw [← h _ (by omega) (by omega)]; exact h2 j hj
  · intro h2 j hj
    have := List.mem_range.1 hj
    rw [h _ (by omega) (by omega)]; exact h2 j hj
end Go.Proofs.Ytldnponbkhgijaa
end
section
namespace Go.Proofs.Ytldnponbkhgijaa
open Go.ChangeShapes Go.WideShapes Go.ChangeAt Go.RowKit
set_option linter.unusedVariables false
set_option linter.unusedSimpArgs false

structure Dg (Y A B u d : Nat) : Prop where
  hy : Y = A * 4294967296 + B
  hb : B < 4294967296
  ha : 2147483648 ≤ A
  ha2 : A < 4294967296
  hu : u < Y
  hd : d < 4294967296
theorem lin_le (qa qb r d M : Nat) (hc : qb ≤ r * M + d) : qa * M + qb ≤ (qa + r) * M + d := by rw [Nat.add_mul]; omega
section digit
variable {Y A B u d : Nat}
def dgQ (Y u d : Nat) : Nat := (u * 4294967296 + d) / Y
theorem Dg.pos (h : Dg Y A B u d) : 0 < Y := by have := h.hu; omega
theorem Dg.le (h : Dg Y A B u d) : dgQ Y u d ≤ u / A := by
  have hA : 0 < A := by have := h.ha; omega
  rw [Nat.le_div_iff_mul_le hA]
  have h1 : dgQ Y u d * Y ≤ u * 4294967296 + d := Nat.div_mul_le_self _ _
  have h2 : dgQ Y u d * (A * 4294967296) ≤ dgQ Y u d * Y := Nat.mul_le_mul_left _ (by have := h.hy; omega)
  have h3 : dgQ Y u d * (A * 4294967296) = dgQ Y u d * A * 4294967296 := by rw [Nat.mul_assoc]
  have := h.hd
  omega
theorem Dg.q2 (h : Dg Y A B u d) : u / A ≤ 4294967297 := by
  have hA : 0 < A := by have := h.ha; omega
  have : u / A < 4294967298 := by
    rw [Nat.div_lt_iff_lt_mul hA]
    have := h.hu; have := h.hy; have := h.hb; have := h.ha
    omega
  omega
theorem Dg.done (h : Dg Y A B u d) {q r : Nat} (e : q * A + r = u) (hq : dgQ Y u d ≤ q) (hc : q * B ≤ r * 4294967296 + d) : q = dgQ Y u d := by
  have : q ≤ dgQ Y u d := by
    clear hq
    unfold dgQ
    have e2 : q * Y = q * A * 4294967296 + q * B := by rw [h.hy, Nat.mul_add q (A * 4294967296) B, Nat.mul_assoc q A 4294967296]
    rw [Nat.le_div_iff_mul_le h.pos, e2]
    subst e
    exact lin_le _ _ _ _ _ hc
  omega
theorem Dg.rest (h : Dg Y A B u d) : dgQ Y u d * Y ≤ u * 4294967296 + d ∧ u * 4294967296 + d - dgQ Y u d * Y < Y := by
  have h1 : dgQ Y u d * Y ≤ u * 4294967296 + d := Nat.div_mul_le_self _ _
  refine ⟨h1, ?_⟩
  have h2 : Y * dgQ Y u d + (u * 4294967296 + d) % Y = u * 4294967296 + d := Nat.div_add_mod _ _
  have h3 : (u * 4294967296 + d) % Y < Y := Nat.mod_lt _ h.pos
  rw [Nat.mul_comm] at h2
  omega
end digit
theorem Dg.u2 {Y A B u d u2 : Nat} (h : Dg Y A B u d) (hu : u2 = u * 4294967296 + d - dgQ Y u d * Y) : u * 4294967296 + d = dgQ Y u d * Y + u2 ∧ u2 < Y := by
  obtain ⟨h1, h2⟩ := h.rest
  rw [hu]
  refine ⟨?_, h2⟩
  generalize dgQ Y u d * Y = m at *
  omega
end Go.Proofs.Ytldnponbkhgijaa
end
section
namespace Go.Proofs.Ytldnponbkhgijaa
open Go.ChangeShapes Go.WideShapes Go.ChangeAt Go.RowKit
set_option linter.unusedVariables false
set_option linter.unusedSimpArgs false

theorem in128_zero : In128 0 := by unfold In128; omega
set_option maxHeartbeats 2000000 in
theorem wcmp_any (x y : Int) (hx : In128 x) (hy : In128 y) (w : World) :
    Calls Try.prog 162 #[.agg #[.int .i64 (hiN x), .int .u64 (loN x)], .agg #[.int .i64 (hiN y), .int .u64 (loN y)]] w fun e w' => e = .returned (.int .i64 (cmpZ x y)) ∧ Below w.heap.size w w' := by
  have hxs := split_in hx
  have hys := split_in hy
  have lx := lo_nn x
  have ly := lo_nn y
  have lx2 := lo_lt x
  have ly2 := lo_lt y
  have hz : cmpZ x y = if hiN x = hiN y ∧ loN x = loN y then 0 else if hiN x < hiN y ∨ (hiN x = hiN y ∧ loN x < loN y) then -1 else 1 := by
    unfold cmpZ
    by_cases h1 : x = y
    · subst h1; simp
    · have hne : ¬ (hiN x = hiN y ∧ loN x = loN y) := fun h => h1 (parts_inj hx hy h.1 h.2)
      rw [if_neg h1, if_neg hne]
      by_cases h2 : x < y
      · rw [if_pos h2, if_pos (show hiN x < hiN y ∨ (hiN x = hiN y ∧ loN x < loN y) by omega)]
      · rw [if_neg h2, if_neg (show ¬ (hiN x < hiN y ∨ (hiN x = hiN y ∧ loN x < loN y)) by omega)]
  have HZ := Lib.hid hz
  clear hz hxs hys lx ly lx2 ly2
  generalize hiN x = a at *
  generalize hiN y = b at *
  generalize loN x = c at *
  generalize loN y = d at *
  have P1 := (T2.new w a c 28).alloc (.cells #[.int .i64 b, .int .u64 d] 28)
  have P2 : T2 ((w.alloc (.cells #[.int .i64 a, .int .u64 c] 28)).alloc (.cells #[.int .i64 b, .int .u64 d] 28)) (w.heap.size + 1) b d := by
    have := T2.new (w.alloc (.cells #[.int .i64 a, .int .u64 c] 28)) b d 28
    rwa [World.size_alloc] at this
  have hB := since_alloc (since_alloc (Below.refl _ w) (.cells #[.int .i64 a, .int .u64 c] 28)) (.cells #[.int .i64 b, .int .u64 d] 28)
  go_enter Try.func162, Try.ntmps162
  go_upto_region 1 with fail
  generalize (w.alloc (.cells #[.int .i64 a, .int .u64 c] 28)).alloc (.cells #[.int .i64 b, .int .u64 d] 28) = W at *
  obtain ⟨p0, p1, p2, p3, p4⟩ := P1
  obtain ⟨q0, q1, q2, q3, q4⟩ := P2
  by_cases h1 : a = b
  · subst h1
    by_cases h2 : c = d
    · subst h2
      go_wp2
      go_ret
      exact ⟨by rw [HZ.out]; simp, hB⟩
    · have k1 : (c == d) = false := by simp; exact h2
      have k2 : decide (a < a) = false := by simp
      by_cases h3 : c < d
      · have k3 : decide (c < d) = true := decide_eq_true h3
        go_wp2
        go_ret
        exact ⟨by rw [HZ.out]; simp; omega, hB⟩
      · have k3 : decide (c < d) = false := decide_eq_false h3
        go_wp2
        go_ret
        exact ⟨by rw [HZ.out]; simp; omega, hB⟩
  · have k1 : (a == b) = false := by simp; exact h1
    by_cases h3 : a < b
    · have k3 : decide (a < b) = true := decide_eq_true h3
      go_wp2
      go_ret
      exact ⟨by rw [HZ.out]; simp; omega, hB⟩
    · have k3 : decide (a < b) = false := decide_eq_false h3
      go_wp2
      go_ret
      exact ⟨by rw [HZ.out]; simp; omega, hB⟩
set_option maxHeartbeats 1000000 in
theorem wsign_any (x : Int) (hx : In128 x) (w : World) :
    Calls Try.prog 104 #[.agg #[.int .i64 (hiN x), .int .u64 (loN x)]] w fun e w' => e = .returned (.int .i64 (cmpZ x 0)) ∧ Below w.heap.size w w' := by
  have HC := Lib.hid (fun w => wcmp_any x 0 hx in128_zero w)
  obtain ⟨z1, z2, z3⟩ := zero_parts
  rw [z1, z2] at HC
  go_enter Try.func104, Try.ntmps104
  go_wp2_with fail
  refine (HC.out _).mono ?_
  rintro e w1 ⟨rfl, hb1⟩
  have hB1 := since_step (since_alloc (Below.refl _ w) _) hb1
  go_wp2_with fail
  go_ret
  exact ⟨rfl, hB1⟩
end Go.Proofs.Ytldnponbkhgijaa
end
section
namespace Go.Proofs.Ytldnponbkhgijaa
open Go.ChangeShapes Go.WideShapes Go.ChangeAt Go.RowKit
set_option linter.unusedVariables false
set_option linter.unusedSimpArgs false

theorem EWd : Elem Try.prog 116 28 2 16 := Elem.mk' (z := .agg #[.int .i64 0, .int .u64 0]) (by kernel_rfl) (by kernel_rfl) (by decide) (by decide)
theorem wcells_snoc (l : List Int) (x : Int) : wcells (l ++ [x]) = wcells l ++ [.int .i64 (hiN x), .int .u64 (loN x)] := by simp [wcells]
theorem wide_one (x : Int) : ∀ u ∈ [Value.int .i64 (hiN x), Value.int .u64 (loN x)], u.oneCell' = true := by
  intro u hu
  simp at hu
  rcases hu with rfl | rfl <;> rfl
theorem sums_len (cs : List Pc) (t : Int) : (sumsH cs t).length = cs.length := by simp [sumsH]
theorem sums_in {cs : List Pc} (h6 : ∀ g ∈ cs, ∀ y ∈ g.L, In64 y.qty) (hcl : ∀ g ∈ cs, g.L.length ≤ 900000) (t : Int) : ∀ x ∈ sumsH cs t, In128 x := by
  intro q hq
  obtain ⟨y, hy, rfl⟩ := List.mem_map.1 hq
  have := getG_in (h6 y hy) t
  unfold In64 at this
  unfold In128
  omega
theorem sums_snoc (cs : List Pc) (t : Int) (k : Nat) (h : k < cs.length) : sumsH (cs.take (k + 1)) t = sumsH (cs.take k) t ++ [getG cs[k].L t] := by
  unfold sumsH
  rw [take_snoc cs k h, List.map_append]; rfl
theorem sums_128 {cs : List Pc} (h6 : ∀ g ∈ cs, ∀ y ∈ g.L, In64 y.qty) (hcl : ∀ g ∈ cs, g.L.length ≤ 900000) (t : Int) (hl : cs.length ≤ 900000) : In128 (sumsH cs t).sum := by
  have key : ∀ ds : List Pc, (∀ g ∈ ds, ∀ y ∈ g.L, In64 y.qty) → (∀ g ∈ ds, g.L.length ≤ 900000) → -((ds.length : Int) * 9223372036854775808) ≤ (sumsH ds t).sum ∧ (sumsH ds t).sum ≤ (ds.length : Int) * 9223372036854775808 := by
    intro ds
    induction ds with
    | nil => intro _ _; simp [sumsH]
    | cons g r ih =>
      intro h1 h2
      have i := ih (fun x hx => h1 x (List.mem_cons_of_mem _ hx)) (fun x hx => h2 x (List.mem_cons_of_mem _ hx))
      have b := getG_in (h1 g (by simp)) t
      unfold In64 at b
      have e : (sumsH (g :: r) t).sum = getG g.L t + (sumsH r t).sum := by simp [sumsH]
      rw [e, List.length_cons]
      omega
  have h := key cs h6 hcl
  unfold In128
  omega
set_option maxHeartbeats 4000000 in
set_option maxRecDepth 100000 in
theorem bopen_any (A : Option Addr) (cap : Nat) (l : List Po) (cs : List Pc) (a : Int) (w : World) (hl : l.length ≤ 900000) (hcl : ∀ g ∈ cs, g.L.length ≤ 900000) (h6 : ∀ g ∈ cs, ∀ y ∈ g.L, In64 y.qty) (hs : Sl w A (rc Po.cells l)) (ht : PoTab w l cs) :
    Calls Try.prog 41 #[.slice A l.length cap, .int .i64 a] w fun e w' => e = .returned (.agg #[.int .i64 (hiN (sumsH cs a).sum), .int .u64 (loN (sumsH cs a).sum)]) ∧ Below w.heap.size w w' := by
  have HLC := Lib.hid ht.1
  have hlcs : cs.length ≤ 900000 := by have := HLC.out; omega
  have HQI := Lib.hid (sums_in h6 hcl a)
  have HQL := Lib.hid (sums_len cs a)
  have H6 := Lib.hid h6
  have HCL := Lib.hid hcl
  have H128 := Lib.hid (sums_128 h6 hcl a hlcs)
  have hB0 := since_alloc (Below.refl _ w) (.cells #[.int .i64 0, .int .u64 0] 28)
  have G0 := T2.new w 0 0 28
  have hs0 := hs.alloc (.cells #[.int .i64 0, .int .u64 0] 28)
  have ht0 := ht.below hB0
  clear hs h6 hcl ht
  go_enter Try.func41, Try.ntmps41
  go_upto_region 1 with fail
  generalize hWW : w.alloc (.cells #[.int .i64 0, .int .u64 0] 28) = W at *
  have ht0 : PoTab W l cs := ht0
  clear hWW
  have hWs := hB0.size
  go_wp2_with (first
    | (at_make; refine wpList_mk rfl (.const (.int .i64 0)) (.tmp 11) rfl EWd l.length rfl rfl rfl (by omega) (by unfold maxLen; omega) (Nat.le_refl _) ?_; intro W2 hownW hbW)
    | fail)
  go_loopw [5, 15] (fun out i wr => ∃ (k : Nat) (A' : Option Addr) (c' : Nat), k ≤ l.length ∧ i = .int .i64 k ∧ out = .slice A' (sumsH (cs.take k) a).length c' ∧ wr.ownsRow W.heap.size 28 2 (.slice A' (sumsH (cs.take k) a).length c') (sumsH (cs.take k) a).length (wcells (sumsH (cs.take k) a)) ∧ Below W.heap.size W wr) (fun _ i _ => l.length - (intOf i).toNat)
  case atStart => exact ⟨0, _, _, by omega, rfl, rfl, by simpa [sumsH, wcells] using hownW, hbW⟩
  case round =>
    obtain ⟨k, A', c', hk, rfl, rfl, hown, hB⟩ := hrel
    clear hownW hbW
    by_cases hlt : k < l.length
    · have hlc : k < cs.length := HLC.out ▸ hlt
      obtain ⟨b, o, rfl, hbw, hg⟩ := (hs0.below hB).po hlt
      have hI := (ht0.below hB).2 k hlt hlc
      have hlk : (k : Int) < (l.length : Int) := by omega
      have hge : (0 : Int) ≤ (k : Int) := by omega
      have HN := Lib.hid (sums_snoc cs a k hlc)
      have hq6 := H6.out _ (List.getElem_mem hlc)
      have hm := HCL.out _ (List.getElem_mem hlc)
      have hrl : (sumsH (cs.take k) a).length ≤ k := by rw [sums_len, List.length_take]; omega
      generalize l[k] = v at *
      generalize cs[k] = d at *
      obtain ⟨va, vc, vt, vL, vC⟩ := v
      obtain ⟨da, dc, dL⟩ := d
      obtain ⟨i0, i1, i2, i3⟩ := hI
      simp only at i0 i1 i2 i3 hm hq6
      subst i0; subst i1; subst i2
      have HN := Lib.hid HN.out
      simp only at HN
      obtain ⟨g0, g1, g2⟩ := hg
      simp only at g0 g1 g2
      obtain ⟨R, hR⟩ : ∃ R, sumsH (cs.take k) a = R := ⟨_, rfl⟩
      rw [hR] at hown HN hrl ⊢
      clear hR
      obtain ⟨vq, hvq⟩ : ∃ q, getG dL a = q := ⟨_, rfl⟩
      have HSU := Lib.hid (vget_any vt vC dL a _ (by omega) (i3.alloc (.cells #[.int .i64 va, .int .i64 vc, .slice vt dL.length vC] 133)))
      have hv6 : In64 vq := by rw [← hvq]; exact getG_in hq6 a
      rw [hvq] at HN HSU
      have HE : Hid (sumsH (cs.take (k + 1)) a = R ++ [vq]) := Lib.hid HN.out
      clear HN hvq i3 hq6
      go_wp2_with fail
      refine HSU.out.mono ?_
      rintro e w1 ⟨rfl, hb⟩
      have hv0 := (Below.refl wr.heap.size wr).alloc (Nat.le_refl _) (.cells #[.int .i64 va, .int .i64 vc, .slice vt dL.length vC] 133)
      have hv1 := since_step hv0 hb
      clear hb
      go_wp2_with fail
      refine (wof_any vq hv6 _).mono ?_
      rintro e w1 ⟨rfl, hb⟩
      have hv1 := since_step hv1 hb
      have hB1 := hB.trans (hv1.mono hB.size)
      have hown1 := own_below hown hv1
      have hsz := hB1.size
      clear hb hv0 hv1 g0 g1 g2 HSU
      go_wp2_with (first
        | (at_builtin; refine wpList_app rfl (.tmp 19) (.tmp 25) rfl EWd rfl rfl (hown1.alloc _) (m := 1) (news := [.int .i64 (hiN vq), .int .u64 (loN vq)]) rfl (Sl.new_ _ _ _) (wide_one vq) (by unfold maxLen; omega) (by omega) (by simp only [World.size_alloc]; omega) ?_; intro A2 c2 w2 hown2 hg2 hb2)
        | fail)
      go_roundw
      case rel =>
        refine ⟨k + 1, A2, c2, by omega, by go_num, ?_, ?_, (since_alloc hB1 _).trans hb2⟩
        · rw [HE.out]; simp
        · rw [HE.out, wcells_snoc]; simpa using hown2
      case measure => simp [intOf]; omega
    · obtain rfl : k = l.length := by omega
      have hT : cs.take l.length = cs := by rw [HLC.out, List.take_length]
      rw [hT] at hown ⊢
      clear hT
      have hck := Lib.hid hlcs
      have HA := wadd_any A' c' (sumsH cs a) wr (by have := HQL.out; omega) HQI.out (Sl.of_own hown)
      rw [wideE_yes H128.out] at HA
      have hB1 := hB0.trans (hB.mono hWs)
      have G1 := T2.below G0 hB
      clear hown
      obtain ⟨z, hz⟩ : ∃ z, (sumsH cs a).sum = z := ⟨_, rfl⟩
      rw [hz] at HA
      have HZ := Lib.hid hz
      clear hz
      generalize (sumsH cs a).length = n at *
      go_wp2_with fail
      refine HA.mono ?_
      rintro e w1 ⟨rfl, hb⟩
      have hB2 := since_step hB1 hb
      have G2 := T2.below G1 hb
      have hcs := @cell_set
      obtain ⟨c0, c1, c2, f1, f2⟩ := id G2
      clear hb
      go_wp2_with fail
      refine bodyPost_ret (v := .agg #[.int .i64 (hiN z), .int .u64 (loN z)]) ?_ rfl ?_
      · have G3 := T2.alloc (T2.set2 G2 (hiN z) (loN z)) (.cells #[.int .i64 (hiN z), .int .u64 (loN z)] 28)
        obtain ⟨d0, d1, d2, _, _⟩ := G3
        generalize World.alloc _ _ = U at *
        simp [results, Try.results41, go_sem, d1, d2]
      · refine ⟨by rw [HZ.out], ?_⟩
        repeat' (first | with_reducible exact hB2 | with_reducible refine Below.setCell ?_ ?_ _ | with_reducible refine since_alloc ?_ _)
        all_goals simp
set_option maxHeartbeats 4000000 in
set_option maxRecDepth 100000 in
theorem bbal_any (A : Option Addr) (cap : Nat) (l : List Po) (cs : List Pc) (w : World) (hl : l.length ≤ 900000) (hcl : ∀ g ∈ cs, g.L.length ≤ 900000) (h6 : ∀ g ∈ cs, ∀ y ∈ g.L, In64 y.qty) (hs : Sl w A (rc Po.cells l)) (ht : PoTab w l cs) :
    Calls Try.prog 42 #[.slice A l.length cap] w fun e w' => e = .returned (.bool (balP cs)) ∧ Below w.heap.size w w' := by
  have hlcs : cs.length ≤ 900000 := by have := ht.1; omega
  have H128 := Lib.hid (fun k => sums_128 h6 hcl k hlcs)
  have HOP := Lib.hid (fun k V h1 h2 => bopen_any A cap l cs k V hl hcl h6 h1 h2)
  have HT := Lib.hid (And.intro hs ht)
  clear hs ht h6 hcl hlcs
  go_enter Try.func42, Try.ntmps42
  go_wp2_with fail
  go_loopw [3] (fun i wr => ∃ k : Nat, 1 ≤ k ∧ k ≤ 9 ∧ i = .int .i64 k ∧ (∀ j : Nat, 1 ≤ j → j < k → (sumsH cs (j : Int)).sum = 0) ∧ Below w.heap.size w wr) (fun i _ => 9 - (intOf i).toNat)
  case atStart => exact ⟨1, by omega, by omega, rfl, fun j h1 h2 => absurd h2 (by omega), Below.refl _ _⟩
  case round =>
    obtain ⟨k, hk1, hk9, rfl, hno, hB⟩ := hrel
    by_cases hk : k ≤ 8
    · have hki : (k : Int) ≤ 8 := by omega
      have HO := Lib.hid (HOP.out (k : Int) wr (HT.out.1.below hB) (HT.out.2.below hB))
      have HSG := Lib.hid (fun V => wsign_any (sumsH cs (k : Int)).sum (H128.out _) V)
      have HNO := Lib.hid (fun h : (sumsH cs (k : Int)).sum ≠ 0 => balP_no hk1 hk h)
      have HYE : Hid ((sumsH cs (k : Int)).sum = 0 → ∀ j : Nat, 1 ≤ j → j < k + 1 → (sumsH cs (j : Int)).sum = 0) := Lib.hid (fun h j h1 h2 => by
        rcases Nat.lt_or_ge j k with h' | h'
        · exact hno j h1 h'
        · obtain rfl : j = k := by omega
          exact h)
      generalize (sumsH cs (k : Int)).sum = s at *
      clear hno
      by_cases hs0 : s = 0
      · have HC : Hid (cmpZ s 0 = 0) := Lib.hid (by rw [hs0]; rfl)
        have HN := Lib.hid (HYE.out hs0)
        rw [HC.out] at HSG
        clear hs0 HNO HYE HC
        go_wp2_with fail
        refine HO.out.mono ?_
        rintro e w1 ⟨rfl, hb⟩
        have hB1 := since_step hB hb
        go_wp2_with fail
        refine (HSG.out _).mono ?_
        rintro e w2 ⟨rfl, hb2⟩
        have hB2 := since_step hB1 hb2
        go_wp2_with fail
        go_roundw
        case rel => exact ⟨k + 1, by omega, by omega, by go_num, HN.out, hB2⟩
        case measure => simp [intOf]; omega
      · have HR := Lib.hid (HNO.out hs0)
        have hc : (cmpZ s 0 != 0) = true := by
          unfold cmpZ
          rw [if_neg hs0]
          split <;> rfl
        generalize cmpZ s 0 = z at *
        clear hs0 HNO HYE
        go_wp2_with fail
        refine HO.out.mono ?_
        rintro e w1 ⟨rfl, hb⟩
        have hB1 := since_step hB hb
        go_wp2_with fail
        refine (HSG.out _).mono ?_
        rintro e w2 ⟨rfl, hb2⟩
        have hB2 := since_step hB1 hb2
        go_wp2_with fail
        go_ret
        exact ⟨retB HR.out.symm, hB2⟩
    · have hki : ¬ ((k : Int) ≤ 8) := by omega
      have HR := Lib.hid (balP_yes fun j h1 h2 => hno j h1 (by omega))
      clear hno
      go_wp2_with fail
      go_ret
      exact ⟨retB HR.out.symm, hB⟩
end Go.Proofs.Ytldnponbkhgijaa
end
section
namespace Go.Proofs.Ytldnponbkhgijaa
open Go.ChangeShapes Go.WideShapes Go.ChangeAt Go.RowKit
set_option linter.unusedVariables false
set_option linter.unusedSimpArgs false

theorem InH.below {w w' : World} {g : Po} (h : InH w g) (hb : Below w.heap.size w w') : InH w' g := by
  obtain ⟨L, h1, h2, h3, h4, h5⟩ := h
  exact ⟨L, h1, h2, h3, h4.below hb, h5⟩
theorem liveA (q : Int) (hq : In64 q) (h0 : q ≠ 0) : addL [[], [⟨1, q⟩]] = (0, [⟨1, q⟩]) := by
  have hg : isG [⟨1, q⟩] = true := by simp [isG, okG, risingL, h0]
  have hi := (isG_iff [⟨1, q⟩]).1 hg
  rw [sum_two, if_pos ⟨rfl, hg⟩]
  have e : ((List.range 8).map fun j : Nat => getG [] ((j : Int) + 1) + getG [⟨1, q⟩] ((j : Int) + 1)) = (List.range 8).map fun j : Nat => getG [⟨1, q⟩] ((j : Int) + 1) :=
    List.map_congr_left fun j _ => by rw [getG_nil, Int.zero_add]
  rw [e]
  exact ofR_getG hi.2 hi.1 (fun x hx => by rw [List.mem_singleton.1 hx]; exact hq)
theorem liveN : negR [⟨1, 5⟩] = (0, [⟨1, -5⟩]) := by
  unfold negR
  rw [if_neg (by decide), if_pos (by intro x hx; rw [List.mem_singleton.1 hx]; show In64 (-5 : Int); unfold In64; omega)]
  rfl
theorem live19 : moveP [] 1 0 2 0 [⟨1, 5⟩] = (0, [⟨1, 0, [⟨1, -5⟩]⟩, ⟨2, 0, [⟨1, 5⟩]⟩]) := by
  have h1 : chgHR (fun m => addL [m, [⟨1, -5⟩]]) [] 1 0 = (0, [⟨1, 0, [⟨1, -5⟩]⟩]) := by
    rw [chgHR_ok (L := [⟨1, -5⟩]) rfl (liveA (-5) (by unfold In64; omega) (by omega))]; rfl
  rw [moveP_ok rfl liveN h1, chgHR_ok (L := [⟨1, 5⟩]) (by decide) (by exact liveA 5 (by unfold In64; omega) (by omega))]
  rfl
set_option maxHeartbeats 4000000 in
set_option maxRecDepth 100000 in
theorem lives19_any (w : World) : Calls Try.prog 40 #[] w fun e w' => e = .returned (.bool true) ∧ Below w.heap.size w w' := by
  have HM := Lib.hid (fun A1 V h => bmove_any none 0 [] [] 1 0 2 0 A1 1 [⟨1, 5⟩] V (by simp) (fun g h => by cases h) (fun g h => by cases h) (by simp) (fun y hy => by rw [List.mem_singleton.1 hy]; show In64 (5 : Int); unfold In64; omega) Sl.nil (PoTab.nil V) h)
  rw [live19] at HM
  have HL := Lib.hid (fun A c l V hl h1 h2 => hlots_any A c l [⟨1, 0, [⟨1, -5⟩]⟩, ⟨2, 0, [⟨1, 5⟩]⟩] 1 0 V hl (by simp) h1 h2)
  rw [show lotsH [⟨1, 0, [⟨1, -5⟩]⟩, ⟨2, 0, [⟨1, 5⟩]⟩] 1 0 = [⟨1, -5⟩] from rfl] at HL
  have h6 : ∀ g ∈ [(⟨1, 0, [⟨1, -5⟩]⟩ : Pc), ⟨2, 0, [⟨1, 5⟩]⟩], ∀ y ∈ g.L, In64 y.qty := by
    intro g hg y hy
    rcases List.mem_cons.1 hg with rfl | hg
    · rw [List.mem_singleton.1 hy]; show In64 (-5 : Int); unfold In64; omega
    · rw [List.mem_singleton.1 hg] at hy
      rw [List.mem_singleton.1 hy]; show In64 (5 : Int); unfold In64; omega
  have HB := Lib.hid (fun A c l V hl h1 h2 => bbal_any A c l [⟨1, 0, [⟨1, -5⟩]⟩, ⟨2, 0, [⟨1, 5⟩]⟩] V hl (by simp) h6 h1 h2)
  rw [show balP [⟨1, 0, [⟨1, -5⟩]⟩, ⟨2, 0, [⟨1, 5⟩]⟩] = true by decide] at HB
  have HSA := Lib.hid (fun A c A2 W h1 h2 => rvsame_any_self A A2 c 1 [⟨1, -5⟩] W (by decide) h1 h2)
  clear h6
  unfold HRes at HM
  simp only [List.length_cons, List.length_nil] at HM HL HSA
  have hB0 := since_alloc (since_alloc (Below.refl _ w) (.cells #[.int .i64 1, .int .i64 0] 24)) (.cells #[.int .i64 2, .int .i64 0] 24)
  have hK1 := (Bk.new w #[.int .i64 1, .int .i64 0] 24).alloc (.cells #[.int .i64 2, .int .i64 0] 24)
  have hS0 := Sl.new_ ((w.alloc (.cells #[.int .i64 1, .int .i64 0] 24)).alloc (.cells #[.int .i64 2, .int .i64 0] 24)) (rc Lg.cells [⟨1, 5⟩]) 138
  rw [World.size_alloc, World.size_alloc] at hS0
  have HS0 := Lib.hid hS0
  clear hS0
  go_enter Try.func40, Try.ntmps40
  go_wp2_with fail
  refine (HM.out _ _ HS0.out).mono ?_
  rintro e w1 ⟨⟨l1, A1, c1, rfl, s1, t1, _⟩, hb⟩
  have hA := since_alloc hB0 (.cells #[.int .i64 1, .int .i64 5] 138)
  have hB1 := since_step hA hb
  have hK1 := (hK1.alloc (.cells #[.int .i64 1, .int .i64 5] 138)).below hb
  have HLL : Hid (l1.length ≤ 900000) := Lib.hid (by rw [t1.1]; simp)
  have hl2 : (l1.length : Int) = 2 := by rw [t1.1]; rfl
  have HL2 := Lib.hid hl2
  have HQ := Lib.hid (And.intro s1 t1)
  have ck := hK1.2; have p0 := ck 0; have p1 := ck 1; simp at p0 p1; clear ck
  clear hb s1 t1 hl2 hA hB0 HM HS0
  go_wp2_with fail
  refine (HL.out A1 c1 l1 _ HLL.out HQ.out.1 HQ.out.2).mono ?_
  rintro e w2 ⟨⟨A3, c3, rfl, o3⟩, hb⟩
  have hB2 := since_step hB1 hb
  have HQ := Lib.hid (And.intro (HQ.out.1.below hb) (HQ.out.2.below hb))
  have s3 := Sl.of_own o3
  clear hb o3 p0 p1 hK1
  go_wp2_with fail
  refine (HSA.out _ _ _ _ (s3.alloc _) (Sl.new_ w2 (rc Lg.cells [⟨1, -5⟩]) 138)).mono ?_
  rintro e w3 ⟨rfl, hb⟩
  have hb' := since_step (since_alloc (Below.refl _ w2) (.cells #[.int .i64 1, .int .i64 (-5)] 138)) hb
  have hB3 := since_step hB2 hb'
  have HQ := Lib.hid (And.intro (HQ.out.1.below hb') (HQ.out.2.below hb'))
  clear hb hb' s3
  go_wp2_with fail
  refine (HB.out A1 c1 l1 _ HLL.out HQ.out.1 HQ.out.2).mono ?_
  rintro e w4 ⟨rfl, hb⟩
  have hB4 := since_step hB3 hb
  have h2b : ((l1.length : Int) == 2) = true := by rw [HL2.out]; rfl
  go_wp2_with fail
  go_ret
  exact ⟨rfl, hB4⟩
set_option maxHeartbeats 16000000 in
set_option maxRecDepth 100000 in
theorem walk_BookShifts (a0 : Option Addr) (n0 c0 : Nat) (a1 : Array Value) (a2 : Array Value) (a3 : Option Addr) (n3 c3 : Nat) (w : World) (w0 : Rd w (.sl (.cat (.cat (.int .i64) (.cat (.int .i64) .nil)) (.cat (.sl (.cat (.int .i64) (.cat (.int .i64) .nil))) .nil))) [.slice a0 n0 c0]) (w1 : Rd w (.cat (.int .i64) (.cat (.int .i64) .nil)) a1.toList) (w2 : Rd w (.cat (.int .i64) (.cat (.int .i64) .nil)) a2.toList) (w3 : Rd w (.sl (.cat (.int .i64) (.cat (.int .i64) .nil))) [.slice a3 n3 c3]) :
    Calls Try.prog 6 #[.slice a0 n0 c0, .agg a1, .agg a2, .slice a3 n3 c3] w fun e w' => e = .returned (.bool true) ∧ Below w.heap.size w w' := by
  obtain ⟨l, rfl, _, _, hs, hd⟩ := rd_rowsP (f := Po.cells) (fun r => rd_hold) w0
  obtain ⟨fa, fc, rfl⟩ := rd_two w1
  obtain ⟨ta, tc, rfl⟩ := rd_two w2
  obtain ⟨l3, rfl, hl3, hc3, hs3, hq3⟩ := rd_rowsP (f := Lg.cells) (fun r => rd_ltrowH) w3
  clear w0 w1 w2 w3
  have hB := since_alloc (since_alloc (Below.refl _ w) (.cells #[.int .i64 fa, .int .i64 fc] 24)) (.cells #[.int .i64 ta, .int .i64 tc] 24)
  have hK1 := (Bk.new w #[.int .i64 fa, .int .i64 fc] 24).alloc (.cells #[.int .i64 ta, .int .i64 tc] 24)
  have hK2 := Bk.new (w.alloc (.cells #[.int .i64 fa, .int .i64 fc] 24)) #[.int .i64 ta, .int .i64 tc] 24
  rw [World.size_alloc] at hK2
  have HF1 := Lib.hid (few19_any a0 c0 l _ (hs.below hB) (fun g hg => (hd g hg).below hB))
  obtain ⟨M, hM⟩ : ∃ M, l3.take 12 = M := ⟨_, rfl⟩
  have hM12 : M.length ≤ 12 := by rw [← hM]; simp; omega
  have hM6 : ∀ y ∈ M, In64 y.qty := by rw [← hM]; exact fun y hy => hq3 y (List.mem_of_mem_take hy)
  have hsM : Sl w a3 (rc Lg.cells M) := by rw [← hM, ← rc_take Lg.len]; exact hs3.take _
  have HF2 := few11_any a3 c3 l3
  rw [hM] at HF2
  have HF2 := Lib.hid (fun V h => HF2 V hl3 hc3 h)
  have hs3 := hs3.below hB
  have hsM := hsM.below hB
  have HLV := Lib.hid (fun V => lives19_any V)
  clear hs hd hM hl3 hc3 hq3
  go_enter Try.func6, Try.ntmps6
  go_upto_region 1 with fail
  generalize hWW : (w.alloc (.cells #[.int .i64 fa, .int .i64 fc] 24)).alloc (.cells #[.int .i64 ta, .int .i64 tc] 24) = W at *
  clear hWW
  obtain ⟨hK1_l, hK1_c⟩ := id hK1
  have hK1_0 := hK1_c 0
  have hK1_1 := hK1_c 1
  simp at hK1_0 hK1_1
  clear hK1_c
  obtain ⟨hK2_l, hK2_c⟩ := id hK2
  have hK2_0 := hK2_c 0
  have hK2_1 := hK2_c 1
  simp at hK2_0 hK2_1
  clear hK2_c
  go_wp2_with fail
  refine (HF1.out).mono ?_
  rintro e z1 ⟨⟨R, cs, A, c, rfl, hs, ht, hcap, hR, hgd⟩, hb⟩
  have hB := since_step hB hb
  have hK1 := hK1.below hb
  have hK2 := hK2.below hb
  have hs3 := hs3.below hb
  have hsM := hsM.below hb
  clear hb
  clear hK1_l hK1_0 hK1_1 hK2_l hK2_0 hK2_1
  have hRc := ht.1
  have hR8 : R.length ≤ 800000 := by omega
  have hR9 : R.length ≤ 900000 := by omega
  have hcl9 : ∀ g ∈ cs, g.L.length ≤ 900000 := fun g hg => Nat.le_trans (hgd.1 g hg) (by omega)
  have hcl4 : ∀ g ∈ cs, g.L.length ≤ 400000 := fun g hg => Nat.le_trans (hgd.1 g hg) (by omega)
  have hM4 : M.length ≤ 400000 := by omega
  have HIS := Lib.hid (fun V h1 h2 => his_any A c R cs V hR9 hcl9 h1 h2)
  have HRI := Lib.hid (fun V h1 h2 => rhis_any A c R cs V hR9 hcl9 h1 h2)
  have HLO := Lib.hid (fun V h1 h2 => hlots_any A c R cs fa fc V hR9 hcl9 h1 h2)
  have HRL := Lib.hid (fun V h1 h2 => rhlots_any A c R cs fa fc V hR9 h1 h2)
  have hln := lotsH_len hgd.1 fa fc
  have HS1 := Lib.hid (fun V h1 h2 h3 => bshift_any A c R cs fa fc a3 c3 M V hR9 hcl4 hgd.2 hM4 hM6 h1 h2 h3)
  have HS2 := Lib.hid (fun V h1 h2 h3 => rshift_any A c R cs fa fc a3 c3 M V hR9 hcl4 hgd.2 hM4 hM6 h1 h2 h3)
  have HV1 := Lib.hid (fun V h1 h2 h3 => bmove_any A c R cs fa fc ta tc a3 c3 M V hR8 hcl4 hgd.2 hM4 hM6 h1 h2 h3)
  have HV2 := Lib.hid (fun V h1 h2 h3 => rbmove_any A c R cs fa fc ta tc a3 c3 M V hR8 hcl4 hgd.2 hM4 hM6 h1 h2 h3)
  have hsb := shift_bd (M := M) (a := fa) (c := fc) (by omega) hgd.1
  have hvb := moveP_bd (M := M) (fa := fa) (fc := fc) (ta := ta) (tc := tc) (by omega) hgd.1
  obtain ⟨sn, SL, hS⟩ : ∃ n L, chgHR (fun m => addL [m, M]) cs fa fc = (n, L) := ⟨_, _, rfl⟩
  obtain ⟨vn, VL, hV⟩ : ∃ n L, moveP cs fa fc ta tc M = (n, L) := ⟨_, _, rfl⟩
  rw [hS] at HS1 HS2 hsb
  rw [hV] at HV1 HV2 hvb
  simp only at hsb hvb
  have HSS := Lib.hid (fun A1 c1 l1 A2 c2 l2 V h1 t1 h2 t2 => rhsame_self A1 c1 l1 A2 c2 l2 SL V (by have := (show PoTab V l1 SL from t1).1; omega) (fun g hg => Nat.le_trans (hsb.2 g hg) (by omega)) h1 t1 h2 t2)
  have HSV := Lib.hid (fun A1 c1 l1 A2 c2 l2 V h1 t1 h2 t2 => rhsame_self A1 c1 l1 A2 c2 l2 VL V (by have := (show PoTab V l1 VL from t1).1; omega) (fun g hg => Nat.le_trans (hvb.2 g hg) (by omega)) h1 t1 h2 t2)
  unfold HRes at HS1 HS2 HV1 HV2
  simp only at HS1 HS2 HV1 HV2
  have hsn : (sn == sn) = true := by simp
  have hvn : (vn == vn) = true := by simp
  have HSL := Lib.hid (fun A1 A2 c1 c2 V h1 h2 => rvsame_any_self A1 A2 c1 c2 (lotsH cs fa fc) V (by omega) h1 h2)
  generalize lotsH cs fa fc = L0 at *
  generalize isH cs = bi at *
  have hbi : (bi == bi) = true := by simp
  have hbi2 : (bi != bi) = false := by simp
  have HT := Lib.hid (And.intro hs ht)
  clear hs ht hcap hR hgd hRc hsb hvb hS hV hR8 hR9 hcl9 hcl4 hM4 hM6 hln hM12
  obtain ⟨hK1_l, hK1_c⟩ := id hK1
  have hK1_0 := hK1_c 0
  have hK1_1 := hK1_c 1
  simp at hK1_0 hK1_1
  clear hK1_c
  obtain ⟨hK2_l, hK2_c⟩ := id hK2
  have hK2_0 := hK2_c 0
  have hK2_1 := hK2_c 1
  simp at hK2_0 hK2_1
  clear hK2_c
  go_wp2_with fail
  refine (HF2.out _ hs3).mono ?_
  rintro e z2 ⟨rfl, hb⟩
  have hB := since_step hB hb
  have hK1 := hK1.below hb
  have hK2 := hK2.below hb
  have hs3 := hs3.below hb
  have hsM := hsM.below hb
  have HT := Lib.hid (And.intro (HT.out.1.below hb) (HT.out.2.below hb))
  clear hb
  clear hK1_l hK1_0 hK1_1 hK2_l hK2_0 hK2_1
  clear hs3
  obtain ⟨hK1_l, hK1_c⟩ := id hK1
  have hK1_0 := hK1_c 0
  have hK1_1 := hK1_c 1
  simp at hK1_0 hK1_1
  clear hK1_c
  obtain ⟨hK2_l, hK2_c⟩ := id hK2
  have hK2_0 := hK2_c 0
  have hK2_1 := hK2_c 1
  simp at hK2_0 hK2_1
  clear hK2_c
  go_upto_region 2 with fail
  clear hK1_l hK1_0 hK1_1 hK2_l hK2_0 hK2_1
  have HK1 : Hid (∀ V, Below z2.heap.size z2 V → Bk V w.heap.size #[.int .i64 fa, .int .i64 fc]) := Lib.hid fun V h => hK1.below h
  have HK2 : Hid (∀ V, Below z2.heap.size z2 V → Bk V (w.heap.size + 1) #[.int .i64 ta, .int .i64 tc]) := Lib.hid fun V h => hK2.below h
  have HR0 : Hid (∀ V, Below z2.heap.size z2 V → Sl V A (rc Po.cells R) ∧ PoTab V R cs) := Lib.hid fun V h => ⟨HT.out.1.below h, HT.out.2.below h⟩
  have HM0 : Hid (∀ V, Below z2.heap.size z2 V → Sl V a3 (rc Lg.cells M)) := Lib.hid fun V h => hsM.below h
  have hszU := hB.size
  clear hK1 hK2 HT hsM
  go_wp2_with fail
  refine wp_region_held_drew (S := (fun V => Below z2.heap.size z2 V)) (by kernel_rfl) (by exact (Below.refl _ _).drew) (fun hHeld => ?_)
  refine wpAnyH_take (i := 0) (oi := { dst := some 21, op := _, type := _, pos := _, after := _, guard := _ }) (v := ?_) rfl (by kernel_rfl) (by kernel_rfl) (by kernel_rfl) (fun _ _ _ h => h) (Or.inl ⟨by rfl, ?_⟩) hHeld ?_
  rotate_left
  · (intro w hSw; clear hSw; go_simp <;> with_reducible rfl)
  try simp only [Act.put, List.setIfInBounds_toArray, List.set_cons_zero, List.set_cons_succ]
  refine wpAnyH_take (i := 2) (oi := { dst := some 23, op := _, type := _, pos := _, after := _, guard := _ }) (v := ?_) rfl (by kernel_rfl) (by kernel_rfl) (by kernel_rfl) (fun _ _ _ h => h) (Or.inl ⟨by rfl, ?_⟩) hHeld ?_
  rotate_left
  · (intro w hSw; clear hSw; go_simp <;> with_reducible rfl)
  try simp only [Act.put, List.setIfInBounds_toArray, List.set_cons_zero, List.set_cons_succ]
  refine wpAnyH_ready (rs := [1]) (by kernel_rfl) (by simp) ?_
  refine AllReadyH.cons (o := { dst := some 22, op := _, type := _, pos := _, after := _, guard := _ }) rfl (fun K hK => ?_) AllReadyH.nil
  go_simp
  refine (HIS.out _ (HR0.out _ hHeld).1 (HR0.out _ hHeld).2).mono ?_
  rintro e x1 ⟨rfl, hk1⟩
  have hKeep := since_step hHeld hk1
  go_wp2_with fail
  refine hK.out _ _ (by (try dsimp only); exact hKeep) (fun hHeld => ?_)
  clear hK K hKeep
  try simp only [Act.put, List.setIfInBounds_toArray, List.set_cons_zero, List.set_cons_succ]
  refine wpAnyH_ready (rs := [3]) (by kernel_rfl) (by simp) ?_
  refine AllReadyH.cons (o := { dst := some 24, op := _, type := _, pos := _, after := _, guard := _ }) rfl (fun K hK => ?_) AllReadyH.nil
  go_simp
  refine (HRI.out _ (HR0.out _ hHeld).1 (HR0.out _ hHeld).2).mono ?_
  rintro e x2 ⟨rfl, hk2⟩
  have hKeep := since_step hHeld hk2
  go_wp2_with fail
  refine hK.out _ _ (by (try dsimp only); exact hKeep) (fun hHeld => ?_)
  clear hK K hKeep
  try simp only [Act.put, List.setIfInBounds_toArray, List.set_cons_zero, List.set_cons_succ]
  refine wpAnyH_take (i := 4) (oi := { dst := some 25, op := _, type := _, pos := _, after := _, guard := _ }) (v := ?_) rfl (by kernel_rfl) (by kernel_rfl) (by kernel_rfl) (fun _ _ _ h => h) (Or.inl ⟨by rfl, ?_⟩) hHeld ?_
  rotate_left
  · (intro w hSw; clear hSw; go_simp <;> with_reducible rfl)
  try simp only [Act.put, List.setIfInBounds_toArray, List.set_cons_zero, List.set_cons_succ]
  refine wpAnyH_take (i := 5) (oi := { dst := some 26, op := _, type := _, pos := _, after := _, guard := _ }) (v := ?_) rfl (by kernel_rfl) (by kernel_rfl) (by kernel_rfl) (fun _ _ _ h => h) (Or.inl ⟨by rfl, ?_⟩) hHeld ?_
  rotate_left
  · (intro w hSw; clear hSw; go_simp <;> with_reducible rfl)
  try simp only [Act.put, List.setIfInBounds_toArray, List.set_cons_zero, List.set_cons_succ]
  refine wpAnyH_take (i := 6) (oi := { dst := some 27, op := _, type := _, pos := _, after := _, guard := _ }) (v := ?_) rfl (by kernel_rfl) (by kernel_rfl) (by kernel_rfl) (fun _ _ _ h => h) (Or.inl ⟨by rfl, ?_⟩) hHeld ?_
  rotate_left
  · (intro w hSw; clear hSw; go_simp <;> with_reducible rfl)
  try simp only [Act.put, List.setIfInBounds_toArray, List.set_cons_zero, List.set_cons_succ]
  refine wpAnyH_take (i := 7) (oi := { dst := some 28, op := _, type := _, pos := _, after := _, guard := _ }) (v := ?_) rfl (by kernel_rfl) (by kernel_rfl) (by kernel_rfl) (fun _ _ _ h => h) (Or.inl ⟨by rfl, ?_⟩) hHeld ?_
  rotate_left
  · (intro w hSw; have cu := (HK1.out _ hSw).2; have u0 := cu 0; have u1 := cu 1; simp at u0 u1; clear cu; go_simp <;> with_reducible rfl)
  try simp only [Act.put, List.setIfInBounds_toArray, List.set_cons_zero, List.set_cons_succ]
  refine wpAnyH_take (i := 9) (oi := { dst := some 30, op := _, type := _, pos := _, after := _, guard := _ }) (v := ?_) rfl (by kernel_rfl) (by kernel_rfl) (by kernel_rfl) (fun _ _ _ h => h) (Or.inl ⟨by rfl, ?_⟩) hHeld ?_
  rotate_left
  · (intro w hSw; clear hSw; go_simp <;> with_reducible rfl)
  try simp only [Act.put, List.setIfInBounds_toArray, List.set_cons_zero, List.set_cons_succ]
  refine wpAnyH_take (i := 10) (oi := { dst := some 31, op := _, type := _, pos := _, after := _, guard := _ }) (v := ?_) rfl (by kernel_rfl) (by kernel_rfl) (by kernel_rfl) (fun _ _ _ h => h) (Or.inl ⟨by rfl, ?_⟩) hHeld ?_
  rotate_left
  · (intro w hSw; have cu := (HK1.out _ hSw).2; have u0 := cu 0; have u1 := cu 1; simp at u0 u1; clear cu; go_simp <;> with_reducible rfl)
  try simp only [Act.put, List.setIfInBounds_toArray, List.set_cons_zero, List.set_cons_succ]
  refine wpAnyH_ready (rs := [8]) (by kernel_rfl) (by simp) ?_
  refine AllReadyH.cons (o := { dst := some 29, op := _, type := _, pos := _, after := _, guard := _ }) rfl (fun K hK => ?_) AllReadyH.nil
  go_simp
  refine (HLO.out _ (HR0.out _ hHeld).1 (HR0.out _ hHeld).2).mono ?_
  rintro e x3 ⟨⟨A8, c8, rfl, o8⟩, hk3⟩
  have hKeep := since_step hHeld hk3
  have h8 := Sl.of_own o8
  clear o8
  go_wp2_with fail
  refine hK.out _ _ (by (try dsimp only); exact hKeep) (fun hHeld => ?_)
  clear hK K hKeep
  try simp only [Act.put, List.setIfInBounds_toArray, List.set_cons_zero, List.set_cons_succ]
  refine wpAnyH_ready (rs := [11]) (by kernel_rfl) (by simp) ?_
  refine AllReadyH.cons (o := { dst := some 32, op := _, type := _, pos := _, after := _, guard := _ }) rfl (fun K hK => ?_) AllReadyH.nil
  go_simp
  refine (HRL.out _ (HR0.out _ hHeld).1 (HR0.out _ hHeld).2).mono ?_
  rintro e x4 ⟨⟨A9, c9, rfl, h9⟩, hk4⟩
  have hKeep := since_step hHeld hk4
  have h8 := h8.below hk4
  go_wp2_with fail
  refine hK.out _ _ (by (try dsimp only); exact hKeep) (fun hHeld => ?_)
  clear hK K hKeep
  try simp only [Act.put, List.setIfInBounds_toArray, List.set_cons_zero, List.set_cons_succ]
  refine wpAnyH_ready (rs := [12]) (by kernel_rfl) (by simp) ?_
  refine AllReadyH.cons (o := { dst := some 33, op := _, type := _, pos := _, after := _, guard := _ }) rfl (fun K hK => ?_) AllReadyH.nil
  go_simp
  refine (HSL.out A8 A9 c8 c9 _ h8 h9).mono ?_
  rintro e x5 ⟨rfl, hk5⟩
  have hKeep := since_step hHeld hk5
  clear h8 h9
  go_wp2_with fail
  refine hK.out _ _ (by (try dsimp only); exact hKeep) (fun hHeld => ?_)
  clear hK K hKeep
  try simp only [Act.put, List.setIfInBounds_toArray, List.set_cons_zero, List.set_cons_succ]
  refine wpAnyH_take (i := 13) (oi := { dst := some 34, op := _, type := _, pos := _, after := _, guard := _ }) (v := ?_) rfl (by kernel_rfl) (by kernel_rfl) (by kernel_rfl) (fun _ _ _ h => h) (Or.inl ⟨by rfl, ?_⟩) hHeld ?_
  rotate_left
  · (intro w hSw; clear hSw; go_simp <;> with_reducible rfl)
  try simp only [Act.put, List.setIfInBounds_toArray, List.set_cons_zero, List.set_cons_succ]
  refine wpAnyH_take (i := 14) (oi := { dst := some 35, op := _, type := _, pos := _, after := _, guard := _ }) (v := ?_) rfl (by kernel_rfl) (by kernel_rfl) (by kernel_rfl) (fun _ _ _ h => h) (Or.inl ⟨by rfl, ?_⟩) hHeld ?_
  rotate_left
  · (intro w hSw; clear hSw; go_simp <;> with_reducible rfl)
  try simp only [Act.put, List.setIfInBounds_toArray, List.set_cons_zero, List.set_cons_succ]
  refine wpAnyH_done (by kernel_rfl) ?_ _
  have hBf := hB.trans (hHeld.mono hszU)
  have hK1 := HK1.out _ hHeld
  have hK2 := HK2.out _ hHeld
  have HT := Lib.hid (HR0.out _ hHeld)
  have hsM := HM0.out _ hHeld
  clear HK1 HK2 HR0 HM0
  obtain ⟨hK1_l, hK1_c⟩ := id hK1
  have hK1_0 := hK1_c 0
  have hK1_1 := hK1_c 1
  simp at hK1_0 hK1_1
  clear hK1_c
  obtain ⟨hK2_l, hK2_c⟩ := id hK2
  have hK2_0 := hK2_c 0
  have hK2_1 := hK2_c 1
  simp at hK2_0 hK2_1
  clear hK2_c
  go_wp2_with fail
  refine (HS1.out _ HT.out.1 HT.out.2 hsM).mono ?_
  rintro e y1 ⟨⟨m1, X1, d1, rfl, hsN, htN, _⟩, hb⟩
  have hBf := since_step hBf hb
  have hK1 := hK1.below hb
  have hK2 := hK2.below hb
  have HT := Lib.hid (And.intro (HT.out.1.below hb) (HT.out.2.below hb))
  have hsM := hsM.below hb
  clear hb
  clear hK1_l hK1_0 hK1_1 hK2_l hK2_0 hK2_1
  have HR1 := Lib.hid (And.intro hsN htN)
  clear hsN htN
  obtain ⟨hK1_l, hK1_c⟩ := id hK1
  have hK1_0 := hK1_c 0
  have hK1_1 := hK1_c 1
  simp at hK1_0 hK1_1
  clear hK1_c
  obtain ⟨hK2_l, hK2_c⟩ := id hK2
  have hK2_0 := hK2_c 0
  have hK2_1 := hK2_c 1
  simp at hK2_0 hK2_1
  clear hK2_c
  go_wp2_with fail
  refine (HS2.out _ HT.out.1 HT.out.2 hsM).mono ?_
  rintro e y2 ⟨⟨m2, X2, d2, rfl, hsN, htN, _⟩, hb⟩
  have hBf := since_step hBf hb
  have hK1 := hK1.below hb
  have hK2 := hK2.below hb
  have HT := Lib.hid (And.intro (HT.out.1.below hb) (HT.out.2.below hb))
  have hsM := hsM.below hb
  have HR1 := Lib.hid (And.intro (HR1.out.1.below hb) (HR1.out.2.below hb))
  clear hb
  clear hK1_l hK1_0 hK1_1 hK2_l hK2_0 hK2_1
  have HR2 := Lib.hid (And.intro hsN htN)
  clear hsN htN
  obtain ⟨hK1_l, hK1_c⟩ := id hK1
  have hK1_0 := hK1_c 0
  have hK1_1 := hK1_c 1
  simp at hK1_0 hK1_1
  clear hK1_c
  obtain ⟨hK2_l, hK2_c⟩ := id hK2
  have hK2_0 := hK2_c 0
  have hK2_1 := hK2_c 1
  simp at hK2_0 hK2_1
  clear hK2_c
  go_wp2_with fail
  refine (HV1.out _ HT.out.1 HT.out.2 hsM).mono ?_
  rintro e y3 ⟨⟨m3, X3, d3, rfl, hsN, htN, _⟩, hb⟩
  have hBf := since_step hBf hb
  have hK1 := hK1.below hb
  have hK2 := hK2.below hb
  have HT := Lib.hid (And.intro (HT.out.1.below hb) (HT.out.2.below hb))
  have hsM := hsM.below hb
  have HR1 := Lib.hid (And.intro (HR1.out.1.below hb) (HR1.out.2.below hb))
  have HR2 := Lib.hid (And.intro (HR2.out.1.below hb) (HR2.out.2.below hb))
  clear hb
  clear hK1_l hK1_0 hK1_1 hK2_l hK2_0 hK2_1
  have HR3 := Lib.hid (And.intro hsN htN)
  clear hsN htN
  obtain ⟨hK1_l, hK1_c⟩ := id hK1
  have hK1_0 := hK1_c 0
  have hK1_1 := hK1_c 1
  simp at hK1_0 hK1_1
  clear hK1_c
  obtain ⟨hK2_l, hK2_c⟩ := id hK2
  have hK2_0 := hK2_c 0
  have hK2_1 := hK2_c 1
  simp at hK2_0 hK2_1
  clear hK2_c
  go_wp2_with fail
  refine (HV2.out _ HT.out.1 HT.out.2 hsM).mono ?_
  rintro e y4 ⟨⟨m4, X4, d4, rfl, hsN, htN, _⟩, hb⟩
  have hBf := since_step hBf hb
  have hK1 := hK1.below hb
  have hK2 := hK2.below hb
  have HT := Lib.hid (And.intro (HT.out.1.below hb) (HT.out.2.below hb))
  have hsM := hsM.below hb
  have HR1 := Lib.hid (And.intro (HR1.out.1.below hb) (HR1.out.2.below hb))
  have HR2 := Lib.hid (And.intro (HR2.out.1.below hb) (HR2.out.2.below hb))
  have HR3 := Lib.hid (And.intro (HR3.out.1.below hb) (HR3.out.2.below hb))
  clear hb
  clear hK1_l hK1_0 hK1_1 hK2_l hK2_0 hK2_1
  have HR4 := Lib.hid (And.intro hsN htN)
  clear hsN htN
  clear hK1 hK2 HT hsM
  go_wp2_with fail
  refine (HSS.out _ _ _ _ _ _ _ HR1.out.1 HR1.out.2 HR2.out.1 HR2.out.2).mono ?_
  rintro e y5 ⟨rfl, hb⟩
  have hBf := since_step hBf hb
  have HR1 := Lib.hid (And.intro (HR1.out.1.below hb) (HR1.out.2.below hb))
  have HR2 := Lib.hid (And.intro (HR2.out.1.below hb) (HR2.out.2.below hb))
  have HR3 := Lib.hid (And.intro (HR3.out.1.below hb) (HR3.out.2.below hb))
  have HR4 := Lib.hid (And.intro (HR4.out.1.below hb) (HR4.out.2.below hb))
  clear hb
  clear HR1 HR2
  go_wp2_with fail
  refine (HSV.out _ _ _ _ _ _ _ HR3.out.1 HR3.out.2 HR4.out.1 HR4.out.2).mono ?_
  rintro e y6 ⟨rfl, hb⟩
  have hBf := since_step hBf hb
  have HR3 := Lib.hid (And.intro (HR3.out.1.below hb) (HR3.out.2.below hb))
  have HR4 := Lib.hid (And.intro (HR4.out.1.below hb) (HR4.out.2.below hb))
  clear hb
  clear HR3 HR4
  go_wp2_with fail
  refine (HLV.out _).mono ?_
  rintro e y7 ⟨rfl, hb⟩
  have hBf := since_step hBf hb
  clear hb
  go_wp2_with fail
  go_ret
  exact ⟨rfl, hBf⟩
end Go.Proofs.Ytldnponbkhgijaa
end
