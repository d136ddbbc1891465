import Derived.Test.YtahdmomadbbhoaaGreatDk31
section
namespace Go.Proofs.YtahdmomadbbhoaaGreat
open Go.ChangeShapes Go.WideShapes Go.ChangeAt Go.RowKit
set_option linter.unusedVariables false
set_option linter.unusedSimpArgs false

noncomputable def moveP (cs : List Pc) (fa fc ta tc : Int) (M : List Lg) : Int × List Pc :=
  if isH cs = false then (3, []) else if (negR M).1 ≠ 0 then ((negR M).1, []) else
  if (chgHR (fun m => addL [m, (negR M).2]) cs fa fc).1 ≠ 0 then ((chgHR (fun m => addL [m, (negR M).2]) cs fa fc).1, [])
  else chgHR (fun m => addL [m, M]) (chgHR (fun m => addL [m, (negR M).2]) cs fa fc).2 ta tc
theorem moveP_form {cs : List Pc} {fa fc ta tc : Int} {M : List Lg} (h : isH cs = false) : moveP cs fa fc ta tc M = (3, []) := if_pos h
theorem moveP_neg {cs : List Pc} {fa fc ta tc n : Int} {M NL : List Lg} (h : isH cs = true) (h1 : negR M = (n, NL)) (hn : n ≠ 0) : moveP cs fa fc ta tc M = (n, []) := by
  unfold moveP; rw [if_neg (by simp [h]), h1, if_pos hn]
theorem moveP_one {cs X : List Pc} {fa fc ta tc n : Int} {M NL : List Lg} (h : isH cs = true) (h1 : negR M = (0, NL)) (h2 : chgHR (fun m => addL [m, NL]) cs fa fc = (n, X)) (hn : n ≠ 0) : moveP cs fa fc ta tc M = (n, []) := by
  unfold moveP; rw [if_neg (by simp [h]), h1, if_neg (by simp), h2, if_pos hn]
theorem moveP_ok {cs X : List Pc} {fa fc ta tc : Int} {M NL : List Lg} (h : isH cs = true) (h1 : negR M = (0, NL)) (h2 : chgHR (fun m => addL [m, NL]) cs fa fc = (0, X)) : moveP cs fa fc ta tc M = chgHR (fun m => addL [m, M]) X ta tc := by
  unfold moveP; rw [if_neg (by simp [h]), h1, if_neg (by simp), h2, if_neg (by simp)]
theorem legs_qty : ∀ (i : Int) (l : List Int), ∀ x ∈ legsF i l, x.qty ∈ l
  | _, [], x, h => by simp [legsF] at h
  | i, q :: r, x, h => by
    unfold legsF at h
    rcases List.mem_append.1 h with h | h
    · split at h
      · cases h
      · rw [List.mem_singleton.1 h]; exact List.mem_cons_self
    · exact List.mem_cons_of_mem _ (legs_qty (i + 1) r x h)
theorem ofR_in (l : List Int) : ∀ x ∈ (ofR l).2, In64 x.qty := by
  unfold ofR
  split
  · rename_i h
    intro x hx
    exact h _ (legs_qty 1 l x hx)
  · intro x hx; cases hx
theorem addL_in (L : List (List Lg)) : ∀ x ∈ (addL L).2, In64 x.qty := by
  unfold addL addR
  split
  · exact ofR_in _
  · intro x hx; cases hx
theorem addL_is (L : List (List Lg)) : isG (addL L).2 = true := addR_is _
theorem addL_len (L : List (List Lg)) : (addL L).2.length ≤ 8 := addR_len _
theorem chg_factsP {how : List Lg → Int × List Lg} {cs R : List Pc} {a c : Int} (h : chgHR how cs a c = (0, R)) : isH cs = true ∧ ∃ L, how (lotsH cs a c) = (0, L) ∧ R = withH cs a c L := by
  unfold chgHR at h
  split at h
  · injection h with h1; cases h1
  · rename_i hi
    split at h
    · rename_i hn
      injection h with h1; exact absurd h1 hn
    · rename_i hn
      injection h with _ e
      refine ⟨by simpa using hi, _, Prod.ext (by simpa using hn) rfl, e.symm⟩
theorem with_bdP {cs : List Pc} (hs : SoH cs) {n : Nat} (h : ∀ g ∈ cs, g.L.length ≤ n) (a c : Int) {L : List Lg} (hL : L.length ≤ n) : ∀ g ∈ withH cs a c L, g.L.length ≤ n := by
  intro g hg
  rcases (mem_with hs a c L g).1 hg with ⟨_, rfl⟩ | ⟨h1, _⟩
  · exact hL
  · exact h g h1
theorem shift_is {M : List Lg} {cs R : List Pc} {a c : Int} (h : chgHR (fun m => addL [m, M]) cs a c = (0, R)) : isH R = true ∧ ((∀ g ∈ cs, ∀ y ∈ g.L, In64 y.qty) → ∀ g ∈ R, ∀ y ∈ g.L, In64 y.qty) ∧ R.length ≤ cs.length + 1 ∧ (∀ n : Nat, 8 ≤ n → (∀ g ∈ cs, g.L.length ≤ n) → ∀ g ∈ R, g.L.length ≤ n) := by
  obtain ⟨hi, L, hL, rfl⟩ := chg_factsP h
  have e : L = (addL [lotsH cs a c, M]).2 := by rw [hL]
  have hs := isH_sorted hi
  refine ⟨with_is hi (by rw [e]; exact addL_is _) a c, fun h6 => with_in6 hs h6 (by rw [e]; exact addL_in _) a c, with_len a c L, fun n hn hc => with_bdP hs hc a c ?_⟩
  have := addL_len [lotsH cs a c, M]
  rw [e]; omega
set_option maxHeartbeats 8000000 in
set_option maxRecDepth 100000 in
theorem bmove_any (A : Option Addr) (cap : Nat) (l : List Po) (cs : List Pc) (fa fc ta tc : Int) (LA : Option Addr) (LC : Nat) (M : List Lg) (w : World) (hl : l.length ≤ 800000) (hcl : ∀ g ∈ cs, g.L.length ≤ 400000) (h6 : ∀ g ∈ cs, ∀ y ∈ g.L, In64 y.qty) (hMl : M.length ≤ 400000) (hM6 : ∀ y ∈ M, In64 y.qty) (hs : Sl w A (rc Po.cells l)) (ht : PoTab w l cs) (hM : Sl w LA (rc Lg.cells M)) :
    Calls Tryz.prog 32 #[.slice A l.length cap, .agg #[.int .i64 fa, .int .i64 fc], .agg #[.int .i64 ta, .int .i64 tc], .slice LA M.length LC] w fun e w' => HRes w' e (moveP cs fa fc ta tc M) ∧ Below w.heap.size w w' := by
  have hB0 := since_alloc (since_alloc (Below.refl _ w) (.cells #[.int .i64 fa, .int .i64 fc] 28)) (.cells #[.int .i64 ta, .int .i64 tc] 28)
  have hK1 := (Bk.new w #[.int .i64 fa, .int .i64 fc] 28).alloc (.cells #[.int .i64 ta, .int .i64 tc] 28)
  have hK2 := Bk.new (w.alloc (.cells #[.int .i64 fa, .int .i64 fc] 28)) #[.int .i64 ta, .int .i64 tc] 28
  rw [World.size_alloc] at hK2
  have hcl9 : ∀ g ∈ cs, g.L.length ≤ 900000 := fun g hg => Nat.le_trans (hcl g hg) (by omega)
  have hl9 : l.length ≤ 900000 := by omega
  have HIS := Lib.hid (his_any A cap l cs _ hl9 hcl9 ((hs.alloc (.cells #[.int .i64 fa, .int .i64 fc] 28)).alloc (.cells #[.int .i64 ta, .int .i64 tc] 28)) (ht.below hB0))
  have HSL : Hid (∀ V, Below w.heap.size w V → Sl V A (rc Po.cells l)) := Lib.hid fun V hV => hs.below hV
  have HTB : Hid (∀ V, Below w.heap.size w V → PoTab V l cs) := Lib.hid fun V hV => ht.below hV
  have HSM : Hid (∀ V, Below w.heap.size w V → Sl V LA (rc Lg.cells M)) := Lib.hid fun V hV => hM.below hV
  have HNG := Lib.hid (fun V h => vneg_any LA LC M V (by omega) hM6 h)
  have hnl := negR_len M
  have HLC := Lib.hid ht.1
  obtain ⟨nn, NL, hN⟩ : ∃ n L, negR M = (n, L) := ⟨_, _, rfl⟩
  rw [hN] at HNG hnl
  unfold GRes at HNG
  simp only at HNG hnl
  clear hs ht hM
  cases hi : isH cs with
  | false =>
    have HR := Lib.hid (moveP_form (fa := fa) (fc := fc) (ta := ta) (tc := tc) (M := M) hi)
    rw [hi] at HIS
    clear hi hN
    go_enter Tryz.func32, Tryz.ntmps32
    go_wp2_with fail
    refine HIS.out.mono ?_
    rintro e w1 ⟨rfl, hb⟩
    have hB := since_step hB0 hb
    have hK1 := hK1.below hb
    have hK2 := hK2.below hb
    clear hb
    go_wp2_with fail
    go_ret2
    rw [HR.out]
    exact ⟨HRes.nil _ _, hB⟩
  | true =>
    rw [hi] at HIS
    by_cases hn : nn = 0
    rotate_left
    · have HR := Lib.hid (moveP_neg (fa := fa) (fc := fc) (ta := ta) (tc := tc) hi hN hn)
      have hnb : (nn != 0) = true := by simpa using hn
      have hnb2 : (nn == 0) = false := by simpa using hn
      clear hi hN hn
      go_enter Tryz.func32, Tryz.ntmps32
      go_wp2_with fail
      refine HIS.out.mono ?_
      rintro e w1 ⟨rfl, hb⟩
      have hB := since_step hB0 hb
      have hK1 := hK1.below hb
      have hK2 := hK2.below hb
      clear hb
      go_wp2_with fail
      refine (HNG.out _ (HSM.out _ hB)).mono ?_
      rintro e w2 ⟨⟨A1, c1, rfl, o1⟩, hb⟩
      have hB := since_step hB hb
      have hK1 := hK1.below hb
      have hK2 := hK2.below hb
      have h1 := Sl.of_own o1
      have ck := hK1.2; have k0 := ck 0; have k1 := ck 1; simp at k0 k1; clear ck
      clear hb o1
      go_wp2_with fail
      go_ret2
      rw [HR.out]
      exact ⟨HRes.nil _ _, hB⟩
    · subst hn
      have hNL : NL = negG M ∧ ∀ x ∈ M, In64 (-x.qty) := by
        have h := negR_ok (l := M) (by rw [hN])
        rw [hN] at h
        exact ⟨h.2.1, h.2.2⟩
      have hN6 : ∀ y ∈ NL, In64 y.qty := by
        intro y hy
        rw [hNL.1] at hy
        obtain ⟨x, hx, rfl⟩ := List.mem_map.1 hy
        exact hNL.2 x hx
      have hNl : NL.length ≤ 400000 := by omega
      have HS1 := Lib.hid (fun A1 c1 V h1 h2 h3 => bshift_any A cap l cs fa fc A1 c1 NL V hl9 hcl h6 hNl hN6 h1 h2 h3)
      obtain ⟨xn, XL, hX⟩ : ∃ n L, chgHR (fun m => addL [m, NL]) cs fa fc = (n, L) := ⟨_, _, rfl⟩
      rw [hX] at HS1
      unfold HRes at HS1
      simp only at HS1
      by_cases hm : xn = 0
      rotate_left
      · have HR := Lib.hid (moveP_one (ta := ta) (tc := tc) hi hN hX hm)
        have hnb : (xn != 0) = true := by simpa using hm
        have hnb2 : (xn == 0) = false := by simpa using hm
        clear hi hN hm hX hNL
        go_enter Tryz.func32, Tryz.ntmps32
        go_wp2_with fail
        refine HIS.out.mono ?_
        rintro e w1 ⟨rfl, hb⟩
        have hB := since_step hB0 hb
        have hK1 := hK1.below hb
        have hK2 := hK2.below hb
        clear hb
        go_wp2_with fail
        refine (HNG.out _ (HSM.out _ hB)).mono ?_
        rintro e w2 ⟨⟨A1, c1, rfl, o1⟩, hb⟩
        have hB := since_step hB hb
        have hK1 := hK1.below hb
        have hK2 := hK2.below hb
        have h1 := Sl.of_own o1
        have ck := hK1.2; have k0 := ck 0; have k1 := ck 1; simp at k0 k1; clear ck
        clear hb o1
        go_wp2_with fail
        refine (HS1.out A1 c1 _ (HSL.out _ hB) (HTB.out _ hB) h1).mono ?_
        rintro e w3 ⟨⟨l2, A2, c2, rfl, hs2, ht2, _⟩, hb⟩
        have hB := since_step hB hb
        have hK2 := hK2.below hb
        have ck := hK2.2; have k2 := ck 0; have k3 := ck 1; simp at k2 k3; clear ck
        clear hb k0 k1 h1
        go_wp2_with fail
        go_ret2
        rw [HR.out]
        exact ⟨HRes.nil _ _, hB⟩
      · subst hm
        have HR := Lib.hid (moveP_ok (ta := ta) (tc := tc) hi hN hX)
        obtain ⟨hXi, hX6, hXl, hXc⟩ := shift_is hX
        have hX6 := hX6 h6
        have hXc := hXc 400000 (by omega) hcl
        have HXL : Hid (XL.length ≤ 900000) := Lib.hid (by have := HLC.out; omega)
        have HS2 := Lib.hid (fun A2 c2 l2 V hl2 h1 h2 h3 => bshift_any A2 c2 l2 XL ta tc LA LC M V hl2 hXc hX6 hMl hM6 h1 h2 h3)
        generalize chgHR (fun m => addL [m, M]) XL ta tc = RR at *
        obtain ⟨pn, PL⟩ := RR
        unfold HRes at HS2
        simp only at HS2
        clear hi hN hX hNL hXi hX6 hXl hXc hNl hN6
        go_enter Tryz.func32, Tryz.ntmps32
        go_wp2_with fail
        refine HIS.out.mono ?_
        rintro e w1 ⟨rfl, hb⟩
        have hB := since_step hB0 hb
        have hK1 := hK1.below hb
        have hK2 := hK2.below hb
        clear hb
        go_wp2_with fail
        refine (HNG.out _ (HSM.out _ hB)).mono ?_
        rintro e w2 ⟨⟨A1, c1, rfl, o1⟩, hb⟩
        have hB := since_step hB hb
        have hK1 := hK1.below hb
        have hK2 := hK2.below hb
        have h1 := Sl.of_own o1
        have ck := hK1.2; have k0 := ck 0; have k1 := ck 1; simp at k0 k1; clear ck
        clear hb o1
        go_wp2_with fail
        refine (HS1.out A1 c1 _ (HSL.out _ hB) (HTB.out _ hB) h1).mono ?_
        rintro e w3 ⟨⟨l2, A2, c2, rfl, hs2, ht2, _⟩, hb⟩
        have hB := since_step hB hb
        have hK2 := hK2.below hb
        have ck := hK2.2; have k2 := ck 0; have k3 := ck 1; simp at k2 k3; clear ck
        clear hb k0 k1 h1
        have HS3 := Lib.hid (HS2.out A2 c2 l2 w3 (by have := ht2.1; have := HXL.out; omega) hs2 ht2 (HSM.out _ hB))
        clear hs2 ht2
        go_wp2_with fail
        refine HS3.out.mono ?_
        rintro e w4 ⟨⟨l4, A4, c4, rfl, hs4, ht4, hc4⟩, hb⟩
        have hB := since_step hB hb
        go_wp2_with fail
        go_ret2
        rw [HR.out]
        exact ⟨⟨l4, A4, c4, rfl, hs4, ht4, hc4⟩, hB⟩
end Go.Proofs.YtahdmomadbbhoaaGreat
end
