/-
  Layer 18, thirteenth part: Draw of both sides (laid by gen_lots13.py).
-/
import Derived.Test.YtfagpdnckmaomaaLots12
import Derived.Test.YtfagpdnckmaomaaLots11
namespace Go.Proofs.Ytfagpdnckmaomaa
open Go.ChangeShapes Go.WideShapes Go.ChangeAt Go.RowKit
set_option linter.unusedVariables false
set_option linter.unusedSimpArgs false

/-- two rows, and an error's number -/
def DRes (B : Nat) (w' : World) (e : Ending) (R : Int × List Lt × List Lt) : Prop :=
  ∃ A1 c1 A2 c2, e = .returned (.tuple #[.slice A1 R.2.1.length c1, .slice A2 R.2.2.length c2, .int .i64 R.1]) ∧ w'.ownsRow B 74 3 (.slice A1 R.2.1.length c1) R.2.1.length (rc Lt.cells R.2.1) ∧ w'.ownsRow B 74 3 (.slice A2 R.2.2.length c2) R.2.2.length (rc Lt.cells R.2.2)
theorem DRes.nil (B : Nat) (w' : World) (n : Int) : DRes B w' (.returned (.tuple #[.slice none 0 0, .slice none 0 0, .int .i64 n])) (n, [], []) := ⟨none, 0, none, 0, rfl, own_nil _ _ _, own_nil _ _ _⟩
theorem drawR_ways (l : List Lt) (a q : Int) : (isLs l = false ∧ drawR l a q = (3, [], [])) ∨ (isLs l = true ∧ q < 0 ∧ drawR l a q = (2, [], [])) ∨ (isLs l = true ∧ ¬ q < 0 ∧ (qsL l a).sum < q ∧ drawR l a q = (23, [], [])) ∨
    (isLs l = true ∧ ¬ q < 0 ∧ q ≤ (qsL l a).sum ∧ drawR l a q = (0, someL (drawF a q l).1, someL (drawF a q l).2)) := by
  unfold drawR
  cases isLs l with
  | false => exact .inl ⟨rfl, rfl⟩
  | true =>
    right
    rw [if_neg (by simp)]
    by_cases h1 : q < 0
    · rw [if_pos h1]; exact .inl ⟨rfl, h1, rfl⟩
    · right
      rw [if_neg h1]
      by_cases h2 : (qsL l a).sum < q
      · rw [if_pos h2]; exact .inl ⟨rfl, h1, h2, rfl⟩
      · rw [if_neg h2]; exact .inr ⟨rfl, h1, by omega, rfl⟩
theorem draw_cons (a q : Int) (x : Lt) (r : List Lt) {p : Int} (hp : (if x.ast = a then min x.qty q else 0) = p) : drawF a q (x :: r) = (⟨x.ast, x.tag, p⟩ :: (drawF a (q - p) r).1, ⟨x.ast, x.tag, x.qty - p⟩ :: (drawF a (q - p) r).2) := by
  simp only [drawF, hp]
theorem some_pos {x : Lt} {r : List Lt} (h : x.qty ≠ 0) : someL (x :: r) = [x] ++ someL r := by
  unfold someL
  rw [List.filter_cons, if_pos (by simpa using h)]; rfl
theorem some_zero {x : Lt} {r : List Lt} (h : x.qty = 0) : someL (x :: r) = someL r := by
  unfold someL
  rw [List.filter_cons, if_neg (by simpa using h)]
theorem own_ne_ge {w : World} {base e size n g : Nat} {v : Value} {xs : List Value} (h : w.ownsRow base e size v n xs) (hg : w.heap.size ≤ g) : v.ownBlock ≠ some g := by
  intro h2
  rcases h.2 with ⟨rfl, _⟩ | ⟨g', cap, cur, rfl, _, hh, _⟩
  · simp [Value.ownBlock] at h2
  · simp only [Value.ownBlock, Option.some.injEq] at h2
    subst h2
    rw [Array.getElem?_eq_none hg] at hh
    cases hh
theorem cmpZ_lt {a b : Int} (h : a < b) : cmpZ a b < 0 := by unfold cmpZ; rw [if_neg (by omega), if_pos h]; decide
theorem cmpZ_ge {a b : Int} (h : b ≤ a) : ¬ cmpZ a b < 0 := by unfold cmpZ; split; decide; rw [if_neg (by omega)]; decide

set_option maxHeartbeats 8000000 in
set_option maxRecDepth 100000 in
theorem ldraw_any (A : Option Addr) (cap : Nat) (l : List Lt) (a q0 : Int) (w : World) (hl : l.length ≤ 900000) (hq0 : In64 q0) (hq : ∀ y ∈ l, In64 y.qty) (hs : Sl w A (rc Lt.cells l)) :
    Calls Try.prog 56 #[.slice A l.length cap, .int .i64 a, .int .i64 q0] w fun e w' => DRes w.heap.size w' e (drawR l a q0) ∧ Below w.heap.size w w' := by
  have HIS := lis_any A cap l w (by omega) hs
  rcases drawR_ways l a q0 with ⟨hi, hR⟩ | ⟨hi, hn, hR⟩ | ⟨hi, hn, hsm, hR⟩ | ⟨hi, hn, hsm, hR⟩
  · rw [hR]
    rw [hi] at HIS
    clear hR hi hs hq hq0
    go_enter Try.func56, Try.ntmps56
    go_wp2_with fail
    refine HIS.mono ?_
    rintro e w1 ⟨rfl, hb⟩
    go_wp2_with fail
    (try simp only [Exit.inBlock, Exit.then]); refine bodyPost_ret (results_tmp3 rfl _ _ _) rfl ?_
    exact ⟨DRes.nil _ _ _, hb⟩
  · rw [hR]
    rw [hi] at HIS
    clear hR hi hs hq hq0
    go_enter Try.func56, Try.ntmps56
    go_wp2_with fail
    refine HIS.mono ?_
    rintro e w1 ⟨rfl, hb⟩
    go_wp2_with fail
    (try simp only [Exit.inBlock, Exit.then]); refine bodyPost_ret (results_tmp3 rfl _ _ _) rfl ?_
    exact ⟨DRes.nil _ _ _, hb⟩
  · rw [hR]
    rw [hi] at HIS
    have HSM := Lib.hid (fun V h => lsum_any A cap l a V hl hq h)
    have h128 := sum64_128 (by have := qsL_len l a; omega) (qsL_in hq a)
    have HOF := Lib.hid (fun V => wof_any q0 hq0 V)
    have HCM := Lib.hid (fun V => wcmp_any (qsL l a).sum q0 h128 (of_in q0 hq0).2.2 V)
    have hcz := cmpZ_lt hsm
    have HS : Hid (∀ V, Below w.heap.size w V → Sl V A (rc Lt.cells l)) := Lib.hid fun V h => hs.below h
    clear hR hi hs hq hq0 h128 hsm
    generalize (qsL l a).sum = sm at *
    generalize cmpZ sm q0 = cz at *
    go_enter Try.func56, Try.ntmps56
    go_wp2_with fail
    refine HIS.mono ?_
    rintro e w1 ⟨rfl, hb⟩
    have hB1 : Below w.heap.size w w1 := hb
    go_wp2_with fail
    refine (HSM.out _ (HS.out _ hB1)).mono ?_
    rintro e w2 ⟨rfl, hb⟩
    have hB2 := since_step hB1 hb
    go_wp2_with fail
    refine (HOF.out _).mono ?_
    rintro e w3 ⟨rfl, hb⟩
    have hB3 := since_step hB2 hb
    go_wp2_with fail
    refine (HCM.out _).mono ?_
    rintro e W ⟨rfl, hb⟩
    have hBW := since_step hB3 hb
    go_wp2_with fail
    (try simp only [Exit.inBlock, Exit.then]); refine bodyPost_ret (results_tmp3 rfl _ _ _) rfl ?_
    exact ⟨DRes.nil _ _ _, hBW⟩
  · rw [hR]
    refine (ldraw_ok A cap l a q0 w hl hq0 hq hi (by omega) hsm hs).mono ?_
    rintro e w' ⟨⟨A1, c1, A2, c2, h1, h2, h3⟩, h4⟩
    exact ⟨⟨A1, c1, A2, c2, h1, h2, h3⟩, h4⟩

set_option maxHeartbeats 8000000 in
set_option maxRecDepth 100000 in
theorem rdraw_any (A : Option Addr) (cap : Nat) (l : List Lt) (a q0 : Int) (w : World) (hl : l.length ≤ 900000) (hq0 : In64 q0) (hq : ∀ y ∈ l, In64 y.qty) (hs : Sl w A (rc Lt.cells l)) :
    Calls Try.prog 57 #[.slice A l.length cap, .int .i64 a, .int .i64 q0] w fun e w' => DRes w.heap.size w' e (drawR l a q0) ∧ Below w.heap.size w w' := by
  have HIS := ris_any A cap l w (by omega) hs
  rcases drawR_ways l a q0 with ⟨hi, hR⟩ | ⟨hi, hn, hR⟩ | ⟨hi, hn, hsm, hR⟩ | ⟨hi, hn, hsm, hR⟩
  · rw [hR]
    rw [hi] at HIS
    clear hR hi hs hq hq0
    go_enter Try.func57, Try.ntmps57
    go_wp2_with fail
    refine HIS.mono ?_
    rintro e w1 ⟨rfl, hb⟩
    go_wp2_with fail
    (try simp only [Exit.inBlock, Exit.then]); refine bodyPost_ret (results_tmp3 rfl _ _ _) rfl ?_
    exact ⟨DRes.nil _ _ _, hb⟩
  · rw [hR]
    rw [hi] at HIS
    clear hR hi hs hq hq0
    go_enter Try.func57, Try.ntmps57
    go_wp2_with fail
    refine HIS.mono ?_
    rintro e w1 ⟨rfl, hb⟩
    go_wp2_with fail
    (try simp only [Exit.inBlock, Exit.then]); refine bodyPost_ret (results_tmp3 rfl _ _ _) rfl ?_
    exact ⟨DRes.nil _ _ _, hb⟩
  · rw [hR]
    rw [hi] at HIS
    have HSM := Lib.hid (fun V h => rsum_any A cap l a V hl hq h)
    have H128 := Lib.hid (sum64_128 (by have := qsL_len l a; omega) (qsL_in hq a))
    have HOF := Lib.hid (fun V => bof_any q0 V hq0)
    have H64 := Lib.hid hq0
    have HS : Hid (∀ V, Below w.heap.size w V → Sl V A (rc Lt.cells l)) := Lib.hid fun V h => hs.below h
    have hcz := cmpZ_lt hsm
    clear hR hi hs hq hq0 hsm
    generalize (qsL l a).sum = sm at *
    go_enter Try.func57, Try.ntmps57
    go_wp2_with fail
    refine HIS.mono ?_
    rintro e w1 ⟨rfl, hb⟩
    have hB1 : Below w.heap.size w w1 := hb
    go_wp2_with fail
    refine (HSM.out _ (HS.out _ hB1)).mono ?_
    rintro e w2 ⟨⟨s1, A1, n1, d1, rfl, hf1, Y1⟩, hb⟩
    have hB2 := since_step hB1 hb
    have L1 := Y1.l128 H128.out
    go_wp2_with fail
    refine (HOF.out _).mono ?_
    rintro e w3 ⟨⟨s2, A2, n2, d2, rfl, hf2, Y2⟩, hb⟩
    have hB3 := since_step hB2 hb
    have Y1 := Y1.below hb
    have L2 := Y2.l64 H64.out
    clear hb
    go_wp2_with fail
    refine (bcmp_any _ _ _ _ _ _ _ _ _ _ w3 (by omega) (by omega) Y1 Y2).mono ?_
    rintro e W ⟨rfl, hb⟩
    have hBW := since_step hB3 hb
    clear hb Y1 Y2 hf1 hf2
    go_wp2_with fail
    (try simp only [Exit.inBlock, Exit.then]); refine bodyPost_ret (results_tmp3 rfl _ _ _) rfl ?_
    exact ⟨DRes.nil _ _ _, hBW⟩
  · rw [hR]
    rw [hi] at HIS
    have HSM := Lib.hid (fun V h => rsum_any A cap l a V hl hq h)
    have H128 := Lib.hid (sum64_128 (by have := qsL_len l a; omega) (qsL_in hq a))
    have HOF := Lib.hid (fun V => bof_any q0 V hq0)
    have H64 := Lib.hid hq0
    have HS : Hid (∀ V, Below w.heap.size w V → Sl V A (rc Lt.cells l)) := Lib.hid fun V h => hs.below h
    have hcz := cmpZ_ge hsm
    have HQI : Hid (∀ y : Lt, y ∈ l → In64 y.qty ∧ (0 : Int) < y.qty) := Lib.hid (fun y hy => ⟨hq y hy, isLs_pos hi y hy⟩)
    obtain ⟨TD, hTD⟩ : ∃ d, someL (drawF a q0 l).1 = d := ⟨_, rfl⟩
    obtain ⟨TL, hTL⟩ : ∃ d, someL (drawF a q0 l).2 = d := ⟨_, rfl⟩
    have hlD : TD.length ≤ l.length := by rw [← hTD]; exact Nat.le_trans (List.length_filter_le _ _) (Nat.le_of_eq (drawF_len a q0 l).1)
    have hlL : TL.length ≤ l.length := by rw [← hTL]; exact Nat.le_trans (List.length_filter_le _ _) (Nat.le_of_eq (drawF_len a q0 l).2)
    have HTD0 := Lib.hid hTD
    have HTL0 := Lib.hid hTL
    have HI64 := Lib.hid hq0
    rw [hTD, hTL]
    clear hR hi hs hq hq0 hsm hTD hTL
    generalize (qsL l a).sum = sm at *
    go_enter Try.func57, Try.ntmps57
    go_wp2_with fail
    refine HIS.mono ?_
    rintro e w1 ⟨rfl, hb⟩
    have hB1 : Below w.heap.size w w1 := hb
    go_wp2_with fail
    refine (HSM.out _ (HS.out _ hB1)).mono ?_
    rintro e w2 ⟨⟨s1, A1, n1, d1, rfl, hf1, Y1⟩, hb⟩
    have hB2 := since_step hB1 hb
    have L1 := Y1.l128 H128.out
    go_wp2_with fail
    refine (HOF.out _).mono ?_
    rintro e w3 ⟨⟨s2, A2, n2, d2, rfl, hf2, Y2⟩, hb⟩
    have hB3 := since_step hB2 hb
    have Y1 := Y1.below hb
    have L2 := Y2.l64 H64.out
    clear hb
    go_wp2_with fail
    refine (bcmp_any _ _ _ _ _ _ _ _ _ _ w3 (by omega) (by omega) Y1 Y2).mono ?_
    rintro e W ⟨rfl, hb⟩
    have hBW := since_step hB3 hb
    clear hb Y1 Y2 hf1 hf2
    have hsW := HS.out _ hBW
    have hWs := hBW.size
    clear hB1 hB2 hB3 HIS HSM HOF H128 H64 L1 L2
    go_wp2_with fail
    go_loopw [2, 9, 10, 11] (fun qv dv lv i wr => ∃ (k : Nat) (q : Int) (D L : List Lt) (A1 : Option Addr) (c1 : Nat) (A2 : Option Addr) (c2 : Nat), k ≤ l.length ∧ i = .int .i64 k ∧ qv = .int .i64 q ∧ dv = .slice A1 D.length c1 ∧ lv = .slice A2 L.length c2 ∧
      wr.ownsRow W.heap.size 74 3 (.slice A1 D.length c1) D.length (rc Lt.cells D) ∧ wr.ownsRow W.heap.size 74 3 (.slice A2 L.length c2) L.length (rc Lt.cells L) ∧ Apart (.slice A1 D.length c1) (.slice A2 L.length c2) ∧ D.length ≤ k ∧ L.length ≤ k ∧ 0 ≤ q ∧ q ≤ q0 ∧
      D ++ someL (drawF a q (l.drop k)).1 = TD ∧ L ++ someL (drawF a q (l.drop k)).2 = TL ∧ Below W.heap.size W wr) (fun _ _ _ i _ => l.length - (intOf i).toNat)
    case atStart => exact ⟨0, q0, [], [], none, 0, none, 0, by omega, rfl, rfl, rfl, rfl, own_nil _ _ _, own_nil _ _ _, Apart.none _, Nat.le_refl _, Nat.le_refl _, by omega, by omega, HTD0.out, HTL0.out, Below.refl _ _⟩
    case round =>
      obtain ⟨k, q, D, L, A1, c1, A2, c2, hk, rfl, rfl, rfl, rfl, ownD, ownL, hap, hDk, hLk, hq1, hq2, hTD, hTL, hB⟩ := hrel
      have HTD := Lib.hid hTD
      have HTL := Lib.hid hTL
      clear hTD hTL
      by_cases hlt : k < l.length
      · obtain ⟨b, o, rfl, hbw, hg⟩ := (hsW.below hB).lt hlt
        have hlk : (k : Int) < (l.length : Int) := by omega
        have hge : (0 : Int) ≤ (k : Int) := by omega
        obtain ⟨hx64, hxp⟩ := HQI.out _ (List.getElem_mem hlt)
        have hq64 := HI64.out
        obtain ⟨v, hv⟩ : ∃ v, l[k] = v := ⟨_, rfl⟩
        have HD : Hid (l.drop k = v :: l.drop (k + 1)) := Lib.hid (by rw [← hv]; exact List.drop_eq_getElem_cons hlt)
        have HK1 : Hid (∀ V, Below wr.heap.size wr V → v.at V b (o + k * 3)) := Lib.hid fun V hV => Lt.at_keep (by rw [← hv]; exact hg) fun i => hV.cell (p := ⟨b, i, none⟩) hbw
        rw [hv] at hx64 hxp
        clear hv hcz hn hg
        obtain ⟨xa, xt, xq⟩ := v
        unfold Lt.at at HK1
        simp only at HK1 hx64 hxp
        have hD6 : D.length ≤ 900000 := by omega
        have hL6 : L.length ≤ 900000 := by omega
        have HDk := Lib.hid hDk
        have HLk := Lib.hid hLk
        clear hDk hLk
        go_upto_region 11 with fail
        refine wp_region_held_drew (S := (fun V => Below wr.heap.size wr V)) (by kernel_rfl) (by exact (Below.refl _ _).drew) (fun hHeld => ?_)
        refine wpAnyH_take (i := 0) (oi := { dst := some 32, op := _, type := _, pos := _, after := _, guard := _ }) (v := ?_) rfl (by kernel_rfl) (by kernel_rfl) (by kernel_rfl) (fun _ _ _ h => h) (Or.inl ⟨by rfl, ?_⟩) hHeld ?_
        rotate_left
        · (intro w hSw; obtain ⟨g0, g1, g2⟩ := HK1.out _ hSw; go_simp <;> with_reducible rfl)
        try simp only [Act.put, List.setIfInBounds_toArray, List.set_cons_zero, List.set_cons_succ]
        refine wpAnyH_take (i := 1) (oi := { dst := some 33, op := _, type := _, pos := _, after := _, guard := _ }) (v := ?_) rfl (by kernel_rfl) (by kernel_rfl) (by kernel_rfl) (fun _ _ _ h => h) (Or.inl ⟨by rfl, ?_⟩) hHeld ?_
        rotate_left
        · (intro w hSw; obtain ⟨g0, g1, g2⟩ := HK1.out _ hSw; go_simp <;> with_reducible rfl)
        try simp only [Act.put, List.setIfInBounds_toArray, List.set_cons_zero, List.set_cons_succ]
        refine wpAnyH_take (i := 2) (oi := { dst := some 34, op := _, type := _, pos := _, after := _, guard := _ }) (v := ?_) rfl (by kernel_rfl) (by kernel_rfl) (by kernel_rfl) (fun _ _ _ h => h) (Or.inl ⟨by rfl, ?_⟩) hHeld ?_
        rotate_left
        · (intro w hSw; obtain ⟨g0, g1, g2⟩ := HK1.out _ hSw; go_simp <;> with_reducible rfl)
        try simp only [Act.put, List.setIfInBounds_toArray, List.set_cons_zero, List.set_cons_succ]
        refine wpAnyH_take (i := 3) (oi := { dst := some 35, op := _, type := _, pos := _, after := _, guard := _ }) (v := ?_) rfl (by kernel_rfl) (by kernel_rfl) (by kernel_rfl) (fun _ _ _ h => h) (Or.inl ⟨by rfl, ?_⟩) hHeld ?_
        rotate_left
        · (intro w hSw; obtain ⟨g0, g1, g2⟩ := HK1.out _ hSw; go_simp <;> with_reducible rfl)
        try simp only [Act.put, List.setIfInBounds_toArray, List.set_cons_zero, List.set_cons_succ]
        refine wpAnyH_take (i := 4) (oi := { dst := some 36, op := _, type := _, pos := _, after := _, guard := _ }) (v := ?_) rfl (by kernel_rfl) (by kernel_rfl) (by kernel_rfl) (fun _ _ _ h => h) (Or.inl ⟨by rfl, ?_⟩) hHeld ?_
        rotate_left
        · (intro w hSw; obtain ⟨g0, g1, g2⟩ := HK1.out _ hSw; go_simp <;> with_reducible rfl)
        try simp only [Act.put, List.setIfInBounds_toArray, List.set_cons_zero, List.set_cons_succ]
        refine wpAnyH_take (i := 5) (oi := { dst := some 37, op := _, type := _, pos := _, after := _, guard := _ }) (v := ?_) rfl (by kernel_rfl) (by kernel_rfl) (by kernel_rfl) (fun _ _ _ h => h) (Or.inl ⟨by rfl, ?_⟩) hHeld ?_
        rotate_left
        · (intro w hSw; obtain ⟨g0, g1, g2⟩ := HK1.out _ hSw; go_simp <;> with_reducible rfl)
        try simp only [Act.put, List.setIfInBounds_toArray, List.set_cons_zero, List.set_cons_succ]
        refine wpAnyH_take (i := 6) (oi := { dst := some 38, op := _, type := _, pos := _, after := _, guard := _ }) (v := ?_) rfl (by kernel_rfl) (by kernel_rfl) (by kernel_rfl) (fun _ _ _ h => h) (Or.inl ⟨by rfl, ?_⟩) hHeld ?_
        rotate_left
        · (intro w hSw; obtain ⟨g0, g1, g2⟩ := HK1.out _ hSw; go_simp <;> with_reducible rfl)
        try simp only [Act.put, List.setIfInBounds_toArray, List.set_cons_zero, List.set_cons_succ]
        refine wpAnyH_take (i := 7) (oi := { dst := some 39, op := _, type := _, pos := _, after := _, guard := _ }) (v := ?_) rfl (by kernel_rfl) (by kernel_rfl) (by kernel_rfl) (fun _ _ _ h => h) (Or.inl ⟨by rfl, ?_⟩) hHeld ?_
        rotate_left
        · (intro w hSw; obtain ⟨g0, g1, g2⟩ := HK1.out _ hSw; go_simp <;> with_reducible rfl)
        try simp only [Act.put, List.setIfInBounds_toArray, List.set_cons_zero, List.set_cons_succ]
        refine wpAnyH_ready (rs := [8, 9]) (by kernel_rfl) (by simp) ?_
        refine AllReadyH.cons (o := { dst := some 12, op := _, type := _, pos := _, after := _, guard := _ }) rfl (fun K hK => ?_) (AllReadyH.cons (o := { dst := some 13, op := _, type := _, pos := _, after := _, guard := _ }) rfl (fun K hK => ?_) AllReadyH.nil)
        · have hHd := hHeld
          obtain ⟨g0, g1, g2⟩ := HK1.out _ hHd
          have hKeep := since_alloc hHeld (.cells #[.int .i64 0, .int .i64 0, .int .i64 0] 74)
          go_simp
          refine hK.out _ _ (by (try dsimp only); exact hKeep) (fun hHeld => ?_)
          clear hK K hKeep
          try simp only [Act.put, List.setIfInBounds_toArray, List.set_cons_zero, List.set_cons_succ]
          refine wpAnyH_ready (rs := [9]) (by kernel_rfl) (by simp) ?_
          refine AllReadyH.cons (o := { dst := some 13, op := _, type := _, pos := _, after := _, guard := _ }) rfl (fun K hK => ?_) AllReadyH.nil
          have hHd := hHeld
          obtain ⟨g0, g1, g2⟩ := HK1.out _ hHd
          have hKeep := since_alloc hHeld (.cells #[.int .i64 0, .int .i64 0, .int .i64 0] 74)
          go_simp
          refine hK.out _ _ (by (try dsimp only); exact hKeep) (fun hHeld => ?_)
          clear hK K hKeep
          try simp only [Act.put, List.setIfInBounds_toArray, List.set_cons_zero, List.set_cons_succ]
          refine wpAnyH_ready (rs := [10]) (by kernel_rfl) (by simp) ?_
          refine AllReadyH.cons (o := { dst := none, op := _, type := _, pos := _, after := _, guard := _ }) rfl (fun K hK => ?_) AllReadyH.nil
          have hHd := hHeld
          obtain ⟨g0, g1, g2⟩ := HK1.out _ hHd
          have hKeep := Below.drew (since_alloc (since_alloc (Below.refl _ wr) (.cells #[.int .i64 xa, .int .i64 xt, .int .i64 xq] 74)) (.cells #[.int .i64 0, .int .i64 0, .int .i64 0] 74))
          go_simp
          refine hK.out _ _ (by (try dsimp only); exact hKeep) (fun hHeld => ?_)
          clear hK K hKeep
          try simp only [Act.put, List.setIfInBounds_toArray, List.set_cons_zero, List.set_cons_succ]
          refine wpAnyH_ready (rs := [11]) (by kernel_rfl) (by simp) ?_
          refine AllReadyH.cons (o := { dst := none, op := _, type := _, pos := _, after := _, guard := _ }) rfl (fun K hK => ?_) AllReadyH.nil
          have hHd := hHeld
          obtain ⟨g0, g1, g2⟩ := HK1.out _ hHd
          have hKeep := Below.drew (since_alloc (since_alloc (Below.refl _ wr) (.cells #[.int .i64 xa, .int .i64 xt, .int .i64 xq] 74)) (.cells #[.int .i64 xa, .int .i64 xt, .int .i64 xq] 74))
          go_simp
          refine hK.out _ _ (by (try dsimp only); exact hKeep) (fun hHeld => ?_)
          clear hK K hKeep
          try simp only [Act.put, List.setIfInBounds_toArray, List.set_cons_zero, List.set_cons_succ]
          refine wpAnyH_done (by kernel_rfl) ?_ _
          have B0 : Lt.Bx ((wr.alloc (.cells #[.int .i64 xa, .int .i64 xt, .int .i64 xq] 74)).alloc (.cells #[.int .i64 xa, .int .i64 xt, .int .i64 xq] 74)).drew wr.heap.size ⟨xa, xt, xq⟩ := Lt.Bx.below ((Lt.Bx.new wr ⟨xa, xt, xq⟩).below ((Below.refl _ _).alloc (Nat.le_refl _) (.cells #[.int .i64 xa, .int .i64 xt, .int .i64 xq] 74))) ⟨rfl, rfl, rfl, Nat.le_refl _, fun _ _ => rfl⟩
          have B1 : Lt.Bx ((wr.alloc (.cells #[.int .i64 xa, .int .i64 xt, .int .i64 xq] 74)).alloc (.cells #[.int .i64 xa, .int .i64 xt, .int .i64 xq] 74)).drew (wr.heap.size + 1) ⟨xa, xt, xq⟩ := Lt.Bx.below (show Lt.Bx ((wr.alloc (.cells #[.int .i64 xa, .int .i64 xt, .int .i64 xq] 74)).alloc (.cells #[.int .i64 xa, .int .i64 xt, .int .i64 xq] 74)) (wr.heap.size + 1) ⟨xa, xt, xq⟩ by have h := Lt.Bx.new (wr.alloc (.cells #[.int .i64 xa, .int .i64 xt, .int .i64 xq] 74)) ⟨xa, xt, xq⟩; rw [World.size_alloc] at h; exact h) ⟨rfl, rfl, rfl, Nat.le_refl _, fun _ _ => rfl⟩
          have X0 := B0
          have Y0 := B1
          have hfx : ((wr.alloc (.cells #[.int .i64 xa, .int .i64 xt, .int .i64 xq] 74)).alloc (.cells #[.int .i64 xa, .int .i64 xt, .int .i64 xq] 74)).drew.frozen? ⟨wr.heap.size, 2, none⟩ = false := by simp
          have hfy : ((wr.alloc (.cells #[.int .i64 xa, .int .i64 xt, .int .i64 xq] 74)).alloc (.cells #[.int .i64 xa, .int .i64 xt, .int .i64 xq] 74)).drew.frozen? ⟨wr.heap.size + 1, 2, none⟩ = false := by simp
          have hAF := hHeld
          have hxy : wr.heap.size ≠ wr.heap.size + 1 := by omega
          have hxg : wr.heap.size ≤ wr.heap.size := by omega
          have hyg : wr.heap.size ≤ wr.heap.size + 1 := by omega
          clear B0 B1 HK1
          generalize hFW : ((wr.alloc (.cells #[.int .i64 xa, .int .i64 xt, .int .i64 xq] 74)).alloc (.cells #[.int .i64 xa, .int .i64 xt, .int .i64 xq] 74)).drew = FW at *
          clear hFW
          have hways : (¬ xa = a) ∨ (xa = a ∧ q < xq ∧ 0 < q) ∨ (xa = a ∧ q < xq ∧ ¬ 0 < q) ∨ (xa = a ∧ ¬ q < xq) := by omega
          rcases hways with h1 | h1 | h1 | h1
          · have hb1 : (xa == a) = false := by simpa using h1
            have hw1 : IntKind.i64.wrap q = q := IntWalk.i64_in _ (by unfold In64 at *; omega)
            have hw2 : IntKind.i64.wrap xq = xq := IntWalk.i64_in _ (by unfold In64 at *; omega)
            have hc3 : ¬ q < 0 := by omega
            have hc5 : 0 < xq := hxp
            have HP : Hid ((if xa = a then min xq q else 0) = 0) := Lib.hid (if_neg h1)
            have HC : Hid (drawF a q ((⟨xa, xt, xq⟩ : Lt) :: l.drop (k + 1)) = ((⟨xa, xt, 0⟩ : Lt) :: (drawF a (q) (l.drop (k + 1))).1, (⟨xa, xt, xq⟩ : Lt) :: (drawF a (q) (l.drop (k + 1))).2)) := Lib.hid (by have e := draw_cons a q (⟨xa, xt, xq⟩ : Lt) (l.drop (k + 1)) HP.out; rw [show q - 0 = q from by omega, show xq - 0 = xq from by omega] at e; exact e)
            have HND : Hid ((D) ++ someL (drawF a (q) (l.drop (k + 1))).1 = TD) := Lib.hid (by have e := HTD.out; rw [HD.out, HC.out] at e; rw [some_zero (show (⟨xa, xt, 0⟩ : Lt).qty = 0 from by show 0 = 0; omega)] at e; exact e)
            have HNL : Hid ((L ++ [(⟨xa, xt, xq⟩ : Lt)]) ++ someL (drawF a (q) (l.drop (k + 1))).2 = TL) := Lib.hid (by have e := HTL.out; rw [HD.out, HC.out] at e; rw [some_pos (show (⟨xa, xt, xq⟩ : Lt).qty ≠ 0 from by show xq ≠ 0; omega)] at e; rw [List.append_assoc]; exact e)
            have HQ2 := Lib.hid (show (0 : Int) ≤ q ∧ q ≤ q0 by omega)
            have HDL := Lib.hid (show (D).length ≤ k + 1 by have := HDk.out; (try rw [List.length_append]); simp; omega)
            have HLL := Lib.hid (show (L ++ [(⟨xa, xt, xq⟩ : Lt)]).length ≤ k + 1 by have := HLk.out; (try rw [List.length_append]); simp; omega)
            clear HTD HTL HD HP HC hq1 hq2 hxp hx64 hq64 h1
            obtain ⟨x0, x1, x2⟩ := X0.got
            obtain ⟨y0, y1, y2⟩ := Y0.got
            simp only at x0 x1 x2 y0 y1 y2
            have hcs := @cell_set
            have X1 := (X0.setQ 0).far (p := ⟨wr.heap.size + 1, 2, none⟩) hxy.symm (.int .i64 (xq))
            have Y1 := (Y0.far (p := ⟨wr.heap.size, 2, none⟩) hxy (.int .i64 0)).setQ (xq)
            have hAU := Below.setCell (Below.setCell hAF (p := ⟨wr.heap.size, 2, none⟩) hxg (.int .i64 0)) (p := ⟨wr.heap.size + 1, 2, none⟩) hyg (.int .i64 (xq))
            simp only at X1 Y1
            go_upto_region 18 with fail
            generalize hWU : ((FW.setCell ⟨wr.heap.size, 2, none⟩ (.int .i64 0)).setCell ⟨wr.heap.size + 1, 2, none⟩ (.int .i64 (xq))) = U at *
            clear hWU x0 x1 x2 y0 y1 y2 X0 Y0 hAF hfx hfy hcs
            have hDne := Lib.hid (own_ne_ge ownD hyg)
            have ownD := own_below ownD hAU
            have ownL := own_below ownL hAU
            have hBU := hB.trans (hAU.mono hB.size)
            have hsU := hBU.size
            clear hAU
            obtain ⟨x0, x1, x2⟩ := X1.got
            obtain ⟨y0, y1, y2⟩ := Y1.got
            simp only at x0 x1 x2 y0 y1 y2
            go_wp2_with (first
              | (at_builtin; refine wpList_app2 rfl (.tmp 71) (.tmp 73) rfl ELt rfl rfl (ownL.alloc _) (m := 1) (news := (⟨xa, xt, xq⟩ : Lt).cells) rfl (by decide) (Sl.new_ _ _ _) (Lt.one _) (by unfold maxLen; omega) (by omega) (by simp only [World.size_alloc]; omega) ?_; intro A6 c6 w6 hown6 hg6 hv6 hb6)
              | fail)
            have ownD6 := own_apart (ownD.alloc (.cells #[.int .i64 xa, .int .i64 xt, .int .i64 (xq)] 74)) hap.symm hg6
            have hap6 := (hap.symm.grow (ownD.alloc (.cells #[.int .i64 xa, .int .i64 xt, .int .i64 (xq)] 74)) hv6).symm
            have hB6 := (since_alloc hBU (.cells #[.int .i64 xa, .int .i64 xt, .int .i64 (xq)] 74)).trans hb6
            go_roundw
            case rel => exact ⟨k + 1, q, D, L ++ [(⟨xa, xt, xq⟩ : Lt)], A1, c1, A6, c6, by omega, by go_num, rfl, by first | rfl | simp, by first | rfl | simp, ownD6, by simpa [rc] using hown6, by simpa using hap6, HDL.out, HLL.out, HQ2.out.1, HQ2.out.2, HND.out, HNL.out, hB6⟩
            case measure => simp [intOf]; omega
          · have hb1 : (xa == a) = true := by simpa using h1.1
            have hc3 : q < xq := h1.2.1
            have hw1 : IntKind.i64.wrap 0 = 0 := rfl
            have hw2 : IntKind.i64.wrap (xq - q) = xq - q := IntWalk.i64_in _ (by unfold In64 at *; omega)
            have hc5 : 0 < xq - q := by omega
            have HP : Hid ((if xa = a then min xq q else 0) = q) := Lib.hid (by rw [if_pos h1.1]; omega)
            have hc4 : 0 < q := h1.2.2
            have HC : Hid (drawF a q ((⟨xa, xt, xq⟩ : Lt) :: l.drop (k + 1)) = ((⟨xa, xt, q⟩ : Lt) :: (drawF a (0) (l.drop (k + 1))).1, (⟨xa, xt, xq - q⟩ : Lt) :: (drawF a (0) (l.drop (k + 1))).2)) := Lib.hid (by have e := draw_cons a q (⟨xa, xt, xq⟩ : Lt) (l.drop (k + 1)) HP.out; rw [show q - q = 0 from by omega, show xq - q = xq - q from by omega] at e; exact e)
            have HND : Hid ((D ++ [(⟨xa, xt, q⟩ : Lt)]) ++ someL (drawF a (0) (l.drop (k + 1))).1 = TD) := Lib.hid (by have e := HTD.out; rw [HD.out, HC.out] at e; rw [some_pos (show (⟨xa, xt, q⟩ : Lt).qty ≠ 0 from by show q ≠ 0; omega)] at e; rw [List.append_assoc]; exact e)
            have HNL : Hid ((L ++ [(⟨xa, xt, xq - q⟩ : Lt)]) ++ someL (drawF a (0) (l.drop (k + 1))).2 = TL) := Lib.hid (by have e := HTL.out; rw [HD.out, HC.out] at e; rw [some_pos (show (⟨xa, xt, xq - q⟩ : Lt).qty ≠ 0 from by show xq - q ≠ 0; omega)] at e; rw [List.append_assoc]; exact e)
            have HQ2 := Lib.hid (show (0 : Int) ≤ 0 ∧ 0 ≤ q0 by omega)
            have HDL := Lib.hid (show (D ++ [(⟨xa, xt, q⟩ : Lt)]).length ≤ k + 1 by have := HDk.out; (try rw [List.length_append]); simp; omega)
            have HLL := Lib.hid (show (L ++ [(⟨xa, xt, xq - q⟩ : Lt)]).length ≤ k + 1 by have := HLk.out; (try rw [List.length_append]); simp; omega)
            clear HTD HTL HD HP HC hq1 hq2 hxp hx64 hq64 h1
            obtain ⟨x0, x1, x2⟩ := X0.got
            obtain ⟨y0, y1, y2⟩ := Y0.got
            simp only at x0 x1 x2 y0 y1 y2
            have hcs := @cell_set
            have X1 := (X0.setQ q).far (p := ⟨wr.heap.size + 1, 2, none⟩) hxy.symm (.int .i64 (xq - q))
            have Y1 := (Y0.far (p := ⟨wr.heap.size, 2, none⟩) hxy (.int .i64 q)).setQ (xq - q)
            have hAU := Below.setCell (Below.setCell hAF (p := ⟨wr.heap.size, 2, none⟩) hxg (.int .i64 q)) (p := ⟨wr.heap.size + 1, 2, none⟩) hyg (.int .i64 (xq - q))
            simp only at X1 Y1
            go_upto_region 18 with fail
            generalize hWU : ((FW.setCell ⟨wr.heap.size, 2, none⟩ (.int .i64 q)).setCell ⟨wr.heap.size + 1, 2, none⟩ (.int .i64 (xq - q))) = U at *
            clear hWU x0 x1 x2 y0 y1 y2 X0 Y0 hAF hfx hfy hcs
            have hDne := Lib.hid (own_ne_ge ownD hyg)
            have ownD := own_below ownD hAU
            have ownL := own_below ownL hAU
            have hBU := hB.trans (hAU.mono hB.size)
            have hsU := hBU.size
            clear hAU
            obtain ⟨x0, x1, x2⟩ := X1.got
            obtain ⟨y0, y1, y2⟩ := Y1.got
            simp only at x0 x1 x2 y0 y1 y2
            go_wp2_with (first
              | (at_builtin; refine wpList_app2 rfl (.tmp 64) (.tmp 66) rfl ELt rfl rfl (ownD.alloc _) (m := 1) (news := (⟨xa, xt, q⟩ : Lt).cells) rfl (by decide) (Sl.new_ _ _ _) (Lt.one _) (by unfold maxLen; omega) (by omega) (by simp only [World.size_alloc]; omega) ?_; intro A5 c5 w5 hown5 hg5 hv5 hb5; have ownL5 := own_apart (ownL.alloc (.cells #[.int .i64 xa, .int .i64 xt, .int .i64 q] 74)) hap hg5; have hap5 := hap.grow (ownL.alloc (.cells #[.int .i64 xa, .int .i64 xt, .int .i64 q] 74)) hv5; have hB5 := (since_alloc hBU (.cells #[.int .i64 xa, .int .i64 xt, .int .i64 q] 74)).trans hb5; have Y5 := Y1.grown (.cells #[.int .i64 xa, .int .i64 xt, .int .i64 q] 74) ownD hg5 hDne.out; have hs5 := hB5.size; clear hg5 hv5 hb5 ownL x0 x1 x2 y0 y1 y2 X1 Y1 hap ownD; obtain ⟨y0, y1, y2⟩ := Y5.got; simp only at y0 y1 y2)
              | (at_builtin; refine wpList_app2 rfl (.tmp 71) (.tmp 73) rfl ELt rfl rfl (ownL5.alloc _) (m := 1) (news := (⟨xa, xt, xq - q⟩ : Lt).cells) rfl (by decide) (Sl.new_ _ _ _) (Lt.one _) (by unfold maxLen; omega) (by omega) (by simp only [World.size_alloc]; omega) ?_; intro A6 c6 w6 hown6 hg6 hv6 hb6)
              | fail)
            have ownD6 := own_apart (hown5.alloc (.cells #[.int .i64 xa, .int .i64 xt, .int .i64 (xq - q)] 74)) hap5.symm hg6
            have hap6 := (hap5.symm.grow (hown5.alloc (.cells #[.int .i64 xa, .int .i64 xt, .int .i64 (xq - q)] 74)) hv6).symm
            have hB6 := (since_alloc hB5 (.cells #[.int .i64 xa, .int .i64 xt, .int .i64 (xq - q)] 74)).trans hb6
            go_roundw
            case rel => exact ⟨k + 1, 0, D ++ [(⟨xa, xt, q⟩ : Lt)], L ++ [(⟨xa, xt, xq - q⟩ : Lt)], A5, c5, A6, c6, by omega, by go_num, rfl, by first | rfl | simp, by first | rfl | simp, by simpa [rc] using ownD6, by simpa [rc] using hown6, by simpa using hap6, HDL.out, HLL.out, HQ2.out.1, HQ2.out.2, HND.out, HNL.out, hB6⟩
            case measure => simp [intOf]; omega
          · have hb1 : (xa == a) = true := by simpa using h1.1
            have hc3 : q < xq := h1.2.1
            have hw1 : IntKind.i64.wrap 0 = 0 := rfl
            have hw2 : IntKind.i64.wrap (xq - q) = xq - q := IntWalk.i64_in _ (by unfold In64 at *; omega)
            have hc5 : 0 < xq - q := by omega
            have HP : Hid ((if xa = a then min xq q else 0) = q) := Lib.hid (by rw [if_pos h1.1]; omega)
            have hc4 : ¬ 0 < q := h1.2.2
            have HC : Hid (drawF a q ((⟨xa, xt, xq⟩ : Lt) :: l.drop (k + 1)) = ((⟨xa, xt, q⟩ : Lt) :: (drawF a (0) (l.drop (k + 1))).1, (⟨xa, xt, xq - q⟩ : Lt) :: (drawF a (0) (l.drop (k + 1))).2)) := Lib.hid (by have e := draw_cons a q (⟨xa, xt, xq⟩ : Lt) (l.drop (k + 1)) HP.out; rw [show q - q = 0 from by omega, show xq - q = xq - q from by omega] at e; exact e)
            have HND : Hid ((D) ++ someL (drawF a (0) (l.drop (k + 1))).1 = TD) := Lib.hid (by have e := HTD.out; rw [HD.out, HC.out] at e; rw [some_zero (show (⟨xa, xt, q⟩ : Lt).qty = 0 from by show q = 0; omega)] at e; exact e)
            have HNL : Hid ((L ++ [(⟨xa, xt, xq - q⟩ : Lt)]) ++ someL (drawF a (0) (l.drop (k + 1))).2 = TL) := Lib.hid (by have e := HTL.out; rw [HD.out, HC.out] at e; rw [some_pos (show (⟨xa, xt, xq - q⟩ : Lt).qty ≠ 0 from by show xq - q ≠ 0; omega)] at e; rw [List.append_assoc]; exact e)
            have HQ2 := Lib.hid (show (0 : Int) ≤ 0 ∧ 0 ≤ q0 by omega)
            have HDL := Lib.hid (show (D).length ≤ k + 1 by have := HDk.out; (try rw [List.length_append]); simp; omega)
            have HLL := Lib.hid (show (L ++ [(⟨xa, xt, xq - q⟩ : Lt)]).length ≤ k + 1 by have := HLk.out; (try rw [List.length_append]); simp; omega)
            clear HTD HTL HD HP HC hq1 hq2 hxp hx64 hq64 h1
            obtain ⟨x0, x1, x2⟩ := X0.got
            obtain ⟨y0, y1, y2⟩ := Y0.got
            simp only at x0 x1 x2 y0 y1 y2
            have hcs := @cell_set
            have X1 := (X0.setQ q).far (p := ⟨wr.heap.size + 1, 2, none⟩) hxy.symm (.int .i64 (xq - q))
            have Y1 := (Y0.far (p := ⟨wr.heap.size, 2, none⟩) hxy (.int .i64 q)).setQ (xq - q)
            have hAU := Below.setCell (Below.setCell hAF (p := ⟨wr.heap.size, 2, none⟩) hxg (.int .i64 q)) (p := ⟨wr.heap.size + 1, 2, none⟩) hyg (.int .i64 (xq - q))
            simp only at X1 Y1
            go_upto_region 18 with fail
            generalize hWU : ((FW.setCell ⟨wr.heap.size, 2, none⟩ (.int .i64 q)).setCell ⟨wr.heap.size + 1, 2, none⟩ (.int .i64 (xq - q))) = U at *
            clear hWU x0 x1 x2 y0 y1 y2 X0 Y0 hAF hfx hfy hcs
            have hDne := Lib.hid (own_ne_ge ownD hyg)
            have ownD := own_below ownD hAU
            have ownL := own_below ownL hAU
            have hBU := hB.trans (hAU.mono hB.size)
            have hsU := hBU.size
            clear hAU
            obtain ⟨x0, x1, x2⟩ := X1.got
            obtain ⟨y0, y1, y2⟩ := Y1.got
            simp only at x0 x1 x2 y0 y1 y2
            go_wp2_with (first
              | (at_builtin; refine wpList_app2 rfl (.tmp 71) (.tmp 73) rfl ELt rfl rfl (ownL.alloc _) (m := 1) (news := (⟨xa, xt, xq - q⟩ : Lt).cells) rfl (by decide) (Sl.new_ _ _ _) (Lt.one _) (by unfold maxLen; omega) (by omega) (by simp only [World.size_alloc]; omega) ?_; intro A6 c6 w6 hown6 hg6 hv6 hb6)
              | fail)
            have ownD6 := own_apart (ownD.alloc (.cells #[.int .i64 xa, .int .i64 xt, .int .i64 (xq - q)] 74)) hap.symm hg6
            have hap6 := (hap.symm.grow (ownD.alloc (.cells #[.int .i64 xa, .int .i64 xt, .int .i64 (xq - q)] 74)) hv6).symm
            have hB6 := (since_alloc hBU (.cells #[.int .i64 xa, .int .i64 xt, .int .i64 (xq - q)] 74)).trans hb6
            go_roundw
            case rel => exact ⟨k + 1, 0, D, L ++ [(⟨xa, xt, xq - q⟩ : Lt)], A1, c1, A6, c6, by omega, by go_num, rfl, by first | rfl | simp, by first | rfl | simp, ownD6, by simpa [rc] using hown6, by simpa using hap6, HDL.out, HLL.out, HQ2.out.1, HQ2.out.2, HND.out, HNL.out, hB6⟩
            case measure => simp [intOf]; omega
          · have hb1 : (xa == a) = true := by simpa using h1.1
            have hc3 : ¬ q < xq := h1.2
            have hc4 : 0 < xq := hxp
            have hw1 : IntKind.i64.wrap (q - xq) = q - xq := IntWalk.i64_in _ (by unfold In64 at *; omega)
            have hw2 : IntKind.i64.wrap 0 = 0 := rfl
            have HP : Hid ((if xa = a then min xq q else 0) = xq) := Lib.hid (by rw [if_pos h1.1]; omega)
            have HC : Hid (drawF a q ((⟨xa, xt, xq⟩ : Lt) :: l.drop (k + 1)) = ((⟨xa, xt, xq⟩ : Lt) :: (drawF a (q - xq) (l.drop (k + 1))).1, (⟨xa, xt, 0⟩ : Lt) :: (drawF a (q - xq) (l.drop (k + 1))).2)) := Lib.hid (by have e := draw_cons a q (⟨xa, xt, xq⟩ : Lt) (l.drop (k + 1)) HP.out; rw [show q - xq = q - xq from by omega, show xq - xq = 0 from by omega] at e; exact e)
            have HND : Hid ((D ++ [(⟨xa, xt, xq⟩ : Lt)]) ++ someL (drawF a (q - xq) (l.drop (k + 1))).1 = TD) := Lib.hid (by have e := HTD.out; rw [HD.out, HC.out] at e; rw [some_pos (show (⟨xa, xt, xq⟩ : Lt).qty ≠ 0 from by show xq ≠ 0; omega)] at e; rw [List.append_assoc]; exact e)
            have HNL : Hid ((L) ++ someL (drawF a (q - xq) (l.drop (k + 1))).2 = TL) := Lib.hid (by have e := HTL.out; rw [HD.out, HC.out] at e; rw [some_zero (show (⟨xa, xt, 0⟩ : Lt).qty = 0 from by show 0 = 0; omega)] at e; exact e)
            have HQ2 := Lib.hid (show (0 : Int) ≤ q - xq ∧ q - xq ≤ q0 by omega)
            have HDL := Lib.hid (show (D ++ [(⟨xa, xt, xq⟩ : Lt)]).length ≤ k + 1 by have := HDk.out; (try rw [List.length_append]); simp; omega)
            have HLL := Lib.hid (show (L).length ≤ k + 1 by have := HLk.out; (try rw [List.length_append]); simp; omega)
            clear HTD HTL HD HP HC hq1 hq2 hxp hx64 hq64 h1
            obtain ⟨x0, x1, x2⟩ := X0.got
            obtain ⟨y0, y1, y2⟩ := Y0.got
            simp only at x0 x1 x2 y0 y1 y2
            have hcs := @cell_set
            have X1 := X0.far (p := ⟨wr.heap.size + 1, 2, none⟩) hxy.symm (.int .i64 (0))
            have Y1 := Y0.setQ (0)
            have hAU := Below.setCell hAF (p := ⟨wr.heap.size + 1, 2, none⟩) hyg (.int .i64 (0))
            simp only at X1 Y1
            go_upto_region 18 with fail
            generalize hWU : (FW.setCell ⟨wr.heap.size + 1, 2, none⟩ (.int .i64 (0))) = U at *
            clear hWU x0 x1 x2 y0 y1 y2 X0 Y0 hAF hfx hfy hcs
            have hDne := Lib.hid (own_ne_ge ownD hyg)
            have ownD := own_below ownD hAU
            have ownL := own_below ownL hAU
            have hBU := hB.trans (hAU.mono hB.size)
            have hsU := hBU.size
            clear hAU
            obtain ⟨x0, x1, x2⟩ := X1.got
            obtain ⟨y0, y1, y2⟩ := Y1.got
            simp only at x0 x1 x2 y0 y1 y2
            go_wp2_with (first
              | (at_builtin; refine wpList_app2 rfl (.tmp 64) (.tmp 66) rfl ELt rfl rfl (ownD.alloc _) (m := 1) (news := (⟨xa, xt, xq⟩ : Lt).cells) rfl (by decide) (Sl.new_ _ _ _) (Lt.one _) (by unfold maxLen; omega) (by omega) (by simp only [World.size_alloc]; omega) ?_; intro A5 c5 w5 hown5 hg5 hv5 hb5; have ownL5 := own_apart (ownL.alloc (.cells #[.int .i64 xa, .int .i64 xt, .int .i64 xq] 74)) hap hg5; have hap5 := hap.grow (ownL.alloc (.cells #[.int .i64 xa, .int .i64 xt, .int .i64 xq] 74)) hv5; have hB5 := (since_alloc hBU (.cells #[.int .i64 xa, .int .i64 xt, .int .i64 xq] 74)).trans hb5; have Y5 := Y1.grown (.cells #[.int .i64 xa, .int .i64 xt, .int .i64 xq] 74) ownD hg5 hDne.out; have hs5 := hB5.size; clear hg5 hv5 hb5 ownL x0 x1 x2 y0 y1 y2 X1 Y1 hap ownD; obtain ⟨y0, y1, y2⟩ := Y5.got; simp only at y0 y1 y2)
              | fail)
            go_roundw
            case rel => exact ⟨k + 1, q - xq, D ++ [(⟨xa, xt, xq⟩ : Lt)], L, A5, c5, A2, c2, by omega, by go_num, rfl, by first | rfl | simp, by first | rfl | simp, by simpa [rc] using hown5, ownL5, by simpa using hap5, HDL.out, HLL.out, HQ2.out.1, HQ2.out.2, HND.out, HNL.out, hB5⟩
            case measure => simp [intOf]; omega
        · have hHd := hHeld
          obtain ⟨g0, g1, g2⟩ := HK1.out _ hHd
          have hKeep := since_alloc hHeld (.cells #[.int .i64 0, .int .i64 0, .int .i64 0] 74)
          go_simp
          refine hK.out _ _ (by (try dsimp only); exact hKeep) (fun hHeld => ?_)
          clear hK K hKeep
          try simp only [Act.put, List.setIfInBounds_toArray, List.set_cons_zero, List.set_cons_succ]
          refine wpAnyH_ready (rs := [8]) (by kernel_rfl) (by simp) ?_
          refine AllReadyH.cons (o := { dst := some 12, op := _, type := _, pos := _, after := _, guard := _ }) rfl (fun K hK => ?_) AllReadyH.nil
          have hHd := hHeld
          obtain ⟨g0, g1, g2⟩ := HK1.out _ hHd
          have hKeep := since_alloc hHeld (.cells #[.int .i64 0, .int .i64 0, .int .i64 0] 74)
          go_simp
          refine hK.out _ _ (by (try dsimp only); exact hKeep) (fun hHeld => ?_)
          clear hK K hKeep
          try simp only [Act.put, List.setIfInBounds_toArray, List.set_cons_zero, List.set_cons_succ]
          refine wpAnyH_ready (rs := [10]) (by kernel_rfl) (by simp) ?_
          refine AllReadyH.cons (o := { dst := none, op := _, type := _, pos := _, after := _, guard := _ }) rfl (fun K hK => ?_) AllReadyH.nil
          have hHd := hHeld
          obtain ⟨g0, g1, g2⟩ := HK1.out _ hHd
          have hKeep := Below.drew (since_alloc (since_alloc (Below.refl _ wr) (.cells #[.int .i64 0, .int .i64 0, .int .i64 0] 74)) (.cells #[.int .i64 xa, .int .i64 xt, .int .i64 xq] 74))
          go_simp
          refine hK.out _ _ (by (try dsimp only); exact hKeep) (fun hHeld => ?_)
          clear hK K hKeep
          try simp only [Act.put, List.setIfInBounds_toArray, List.set_cons_zero, List.set_cons_succ]
          refine wpAnyH_ready (rs := [11]) (by kernel_rfl) (by simp) ?_
          refine AllReadyH.cons (o := { dst := none, op := _, type := _, pos := _, after := _, guard := _ }) rfl (fun K hK => ?_) AllReadyH.nil
          have hHd := hHeld
          obtain ⟨g0, g1, g2⟩ := HK1.out _ hHd
          have hKeep := Below.drew (since_alloc (since_alloc (Below.refl _ wr) (.cells #[.int .i64 xa, .int .i64 xt, .int .i64 xq] 74)) (.cells #[.int .i64 xa, .int .i64 xt, .int .i64 xq] 74))
          go_simp
          refine hK.out _ _ (by (try dsimp only); exact hKeep) (fun hHeld => ?_)
          clear hK K hKeep
          try simp only [Act.put, List.setIfInBounds_toArray, List.set_cons_zero, List.set_cons_succ]
          refine wpAnyH_done (by kernel_rfl) ?_ _
          have B0 : Lt.Bx ((wr.alloc (.cells #[.int .i64 xa, .int .i64 xt, .int .i64 xq] 74)).alloc (.cells #[.int .i64 xa, .int .i64 xt, .int .i64 xq] 74)).drew wr.heap.size ⟨xa, xt, xq⟩ := Lt.Bx.below ((Lt.Bx.new wr ⟨xa, xt, xq⟩).below ((Below.refl _ _).alloc (Nat.le_refl _) (.cells #[.int .i64 xa, .int .i64 xt, .int .i64 xq] 74))) ⟨rfl, rfl, rfl, Nat.le_refl _, fun _ _ => rfl⟩
          have B1 : Lt.Bx ((wr.alloc (.cells #[.int .i64 xa, .int .i64 xt, .int .i64 xq] 74)).alloc (.cells #[.int .i64 xa, .int .i64 xt, .int .i64 xq] 74)).drew (wr.heap.size + 1) ⟨xa, xt, xq⟩ := Lt.Bx.below (show Lt.Bx ((wr.alloc (.cells #[.int .i64 xa, .int .i64 xt, .int .i64 xq] 74)).alloc (.cells #[.int .i64 xa, .int .i64 xt, .int .i64 xq] 74)) (wr.heap.size + 1) ⟨xa, xt, xq⟩ by have h := Lt.Bx.new (wr.alloc (.cells #[.int .i64 xa, .int .i64 xt, .int .i64 xq] 74)) ⟨xa, xt, xq⟩; rw [World.size_alloc] at h; exact h) ⟨rfl, rfl, rfl, Nat.le_refl _, fun _ _ => rfl⟩
          have X0 := B1
          have Y0 := B0
          have hfx : ((wr.alloc (.cells #[.int .i64 xa, .int .i64 xt, .int .i64 xq] 74)).alloc (.cells #[.int .i64 xa, .int .i64 xt, .int .i64 xq] 74)).drew.frozen? ⟨wr.heap.size + 1, 2, none⟩ = false := by simp
          have hfy : ((wr.alloc (.cells #[.int .i64 xa, .int .i64 xt, .int .i64 xq] 74)).alloc (.cells #[.int .i64 xa, .int .i64 xt, .int .i64 xq] 74)).drew.frozen? ⟨wr.heap.size, 2, none⟩ = false := by simp
          have hAF := hHeld
          have hxy : wr.heap.size + 1 ≠ wr.heap.size := by omega
          have hxg : wr.heap.size ≤ wr.heap.size + 1 := by omega
          have hyg : wr.heap.size ≤ wr.heap.size := by omega
          clear B0 B1 HK1
          generalize hFW : ((wr.alloc (.cells #[.int .i64 xa, .int .i64 xt, .int .i64 xq] 74)).alloc (.cells #[.int .i64 xa, .int .i64 xt, .int .i64 xq] 74)).drew = FW at *
          clear hFW
          have hways : (¬ xa = a) ∨ (xa = a ∧ q < xq ∧ 0 < q) ∨ (xa = a ∧ q < xq ∧ ¬ 0 < q) ∨ (xa = a ∧ ¬ q < xq) := by omega
          rcases hways with h1 | h1 | h1 | h1
          · have hb1 : (xa == a) = false := by simpa using h1
            have hw1 : IntKind.i64.wrap q = q := IntWalk.i64_in _ (by unfold In64 at *; omega)
            have hw2 : IntKind.i64.wrap xq = xq := IntWalk.i64_in _ (by unfold In64 at *; omega)
            have hc3 : ¬ q < 0 := by omega
            have hc5 : 0 < xq := hxp
            have HP : Hid ((if xa = a then min xq q else 0) = 0) := Lib.hid (if_neg h1)
            have HC : Hid (drawF a q ((⟨xa, xt, xq⟩ : Lt) :: l.drop (k + 1)) = ((⟨xa, xt, 0⟩ : Lt) :: (drawF a (q) (l.drop (k + 1))).1, (⟨xa, xt, xq⟩ : Lt) :: (drawF a (q) (l.drop (k + 1))).2)) := Lib.hid (by have e := draw_cons a q (⟨xa, xt, xq⟩ : Lt) (l.drop (k + 1)) HP.out; rw [show q - 0 = q from by omega, show xq - 0 = xq from by omega] at e; exact e)
            have HND : Hid ((D) ++ someL (drawF a (q) (l.drop (k + 1))).1 = TD) := Lib.hid (by have e := HTD.out; rw [HD.out, HC.out] at e; rw [some_zero (show (⟨xa, xt, 0⟩ : Lt).qty = 0 from by show 0 = 0; omega)] at e; exact e)
            have HNL : Hid ((L ++ [(⟨xa, xt, xq⟩ : Lt)]) ++ someL (drawF a (q) (l.drop (k + 1))).2 = TL) := Lib.hid (by have e := HTL.out; rw [HD.out, HC.out] at e; rw [some_pos (show (⟨xa, xt, xq⟩ : Lt).qty ≠ 0 from by show xq ≠ 0; omega)] at e; rw [List.append_assoc]; exact e)
            have HQ2 := Lib.hid (show (0 : Int) ≤ q ∧ q ≤ q0 by omega)
            have HDL := Lib.hid (show (D).length ≤ k + 1 by have := HDk.out; (try rw [List.length_append]); simp; omega)
            have HLL := Lib.hid (show (L ++ [(⟨xa, xt, xq⟩ : Lt)]).length ≤ k + 1 by have := HLk.out; (try rw [List.length_append]); simp; omega)
            clear HTD HTL HD HP HC hq1 hq2 hxp hx64 hq64 h1
            obtain ⟨x0, x1, x2⟩ := X0.got
            obtain ⟨y0, y1, y2⟩ := Y0.got
            simp only at x0 x1 x2 y0 y1 y2
            have hcs := @cell_set
            have X1 := (X0.setQ 0).far (p := ⟨wr.heap.size, 2, none⟩) hxy.symm (.int .i64 (xq))
            have Y1 := (Y0.far (p := ⟨wr.heap.size + 1, 2, none⟩) hxy (.int .i64 0)).setQ (xq)
            have hAU := Below.setCell (Below.setCell hAF (p := ⟨wr.heap.size + 1, 2, none⟩) hxg (.int .i64 0)) (p := ⟨wr.heap.size, 2, none⟩) hyg (.int .i64 (xq))
            simp only at X1 Y1
            go_upto_region 18 with fail
            generalize hWU : ((FW.setCell ⟨wr.heap.size + 1, 2, none⟩ (.int .i64 0)).setCell ⟨wr.heap.size, 2, none⟩ (.int .i64 (xq))) = U at *
            clear hWU x0 x1 x2 y0 y1 y2 X0 Y0 hAF hfx hfy hcs
            have hDne := Lib.hid (own_ne_ge ownD hyg)
            have ownD := own_below ownD hAU
            have ownL := own_below ownL hAU
            have hBU := hB.trans (hAU.mono hB.size)
            have hsU := hBU.size
            clear hAU
            obtain ⟨x0, x1, x2⟩ := X1.got
            obtain ⟨y0, y1, y2⟩ := Y1.got
            simp only at x0 x1 x2 y0 y1 y2
            go_wp2_with (first
              | (at_builtin; refine wpList_app2 rfl (.tmp 71) (.tmp 73) rfl ELt rfl rfl (ownL.alloc _) (m := 1) (news := (⟨xa, xt, xq⟩ : Lt).cells) rfl (by decide) (Sl.new_ _ _ _) (Lt.one _) (by unfold maxLen; omega) (by omega) (by simp only [World.size_alloc]; omega) ?_; intro A6 c6 w6 hown6 hg6 hv6 hb6)
              | fail)
            have ownD6 := own_apart (ownD.alloc (.cells #[.int .i64 xa, .int .i64 xt, .int .i64 (xq)] 74)) hap.symm hg6
            have hap6 := (hap.symm.grow (ownD.alloc (.cells #[.int .i64 xa, .int .i64 xt, .int .i64 (xq)] 74)) hv6).symm
            have hB6 := (since_alloc hBU (.cells #[.int .i64 xa, .int .i64 xt, .int .i64 (xq)] 74)).trans hb6
            go_roundw
            case rel => exact ⟨k + 1, q, D, L ++ [(⟨xa, xt, xq⟩ : Lt)], A1, c1, A6, c6, by omega, by go_num, rfl, by first | rfl | simp, by first | rfl | simp, ownD6, by simpa [rc] using hown6, by simpa using hap6, HDL.out, HLL.out, HQ2.out.1, HQ2.out.2, HND.out, HNL.out, hB6⟩
            case measure => simp [intOf]; omega
          · have hb1 : (xa == a) = true := by simpa using h1.1
            have hc3 : q < xq := h1.2.1
            have hw1 : IntKind.i64.wrap 0 = 0 := rfl
            have hw2 : IntKind.i64.wrap (xq - q) = xq - q := IntWalk.i64_in _ (by unfold In64 at *; omega)
            have hc5 : 0 < xq - q := by omega
            have HP : Hid ((if xa = a then min xq q else 0) = q) := Lib.hid (by rw [if_pos h1.1]; omega)
            have hc4 : 0 < q := h1.2.2
            have HC : Hid (drawF a q ((⟨xa, xt, xq⟩ : Lt) :: l.drop (k + 1)) = ((⟨xa, xt, q⟩ : Lt) :: (drawF a (0) (l.drop (k + 1))).1, (⟨xa, xt, xq - q⟩ : Lt) :: (drawF a (0) (l.drop (k + 1))).2)) := Lib.hid (by have e := draw_cons a q (⟨xa, xt, xq⟩ : Lt) (l.drop (k + 1)) HP.out; rw [show q - q = 0 from by omega, show xq - q = xq - q from by omega] at e; exact e)
            have HND : Hid ((D ++ [(⟨xa, xt, q⟩ : Lt)]) ++ someL (drawF a (0) (l.drop (k + 1))).1 = TD) := Lib.hid (by have e := HTD.out; rw [HD.out, HC.out] at e; rw [some_pos (show (⟨xa, xt, q⟩ : Lt).qty ≠ 0 from by show q ≠ 0; omega)] at e; rw [List.append_assoc]; exact e)
            have HNL : Hid ((L ++ [(⟨xa, xt, xq - q⟩ : Lt)]) ++ someL (drawF a (0) (l.drop (k + 1))).2 = TL) := Lib.hid (by have e := HTL.out; rw [HD.out, HC.out] at e; rw [some_pos (show (⟨xa, xt, xq - q⟩ : Lt).qty ≠ 0 from by show xq - q ≠ 0; omega)] at e; rw [List.append_assoc]; exact e)
            have HQ2 := Lib.hid (show (0 : Int) ≤ 0 ∧ 0 ≤ q0 by omega)
            have HDL := Lib.hid (show (D ++ [(⟨xa, xt, q⟩ : Lt)]).length ≤ k + 1 by have := HDk.out; (try rw [List.length_append]); simp; omega)
            have HLL := Lib.hid (show (L ++ [(⟨xa, xt, xq - q⟩ : Lt)]).length ≤ k + 1 by have := HLk.out; (try rw [List.length_append]); simp; omega)
            clear HTD HTL HD HP HC hq1 hq2 hxp hx64 hq64 h1
            obtain ⟨x0, x1, x2⟩ := X0.got
            obtain ⟨y0, y1, y2⟩ := Y0.got
            simp only at x0 x1 x2 y0 y1 y2
            have hcs := @cell_set
            have X1 := (X0.setQ q).far (p := ⟨wr.heap.size, 2, none⟩) hxy.symm (.int .i64 (xq - q))
            have Y1 := (Y0.far (p := ⟨wr.heap.size + 1, 2, none⟩) hxy (.int .i64 q)).setQ (xq - q)
            have hAU := Below.setCell (Below.setCell hAF (p := ⟨wr.heap.size + 1, 2, none⟩) hxg (.int .i64 q)) (p := ⟨wr.heap.size, 2, none⟩) hyg (.int .i64 (xq - q))
            simp only at X1 Y1
            go_upto_region 18 with fail
            generalize hWU : ((FW.setCell ⟨wr.heap.size + 1, 2, none⟩ (.int .i64 q)).setCell ⟨wr.heap.size, 2, none⟩ (.int .i64 (xq - q))) = U at *
            clear hWU x0 x1 x2 y0 y1 y2 X0 Y0 hAF hfx hfy hcs
            have hDne := Lib.hid (own_ne_ge ownD hyg)
            have ownD := own_below ownD hAU
            have ownL := own_below ownL hAU
            have hBU := hB.trans (hAU.mono hB.size)
            have hsU := hBU.size
            clear hAU
            obtain ⟨x0, x1, x2⟩ := X1.got
            obtain ⟨y0, y1, y2⟩ := Y1.got
            simp only at x0 x1 x2 y0 y1 y2
            go_wp2_with (first
              | (at_builtin; refine wpList_app2 rfl (.tmp 64) (.tmp 66) rfl ELt rfl rfl (ownD.alloc _) (m := 1) (news := (⟨xa, xt, q⟩ : Lt).cells) rfl (by decide) (Sl.new_ _ _ _) (Lt.one _) (by unfold maxLen; omega) (by omega) (by simp only [World.size_alloc]; omega) ?_; intro A5 c5 w5 hown5 hg5 hv5 hb5; have ownL5 := own_apart (ownL.alloc (.cells #[.int .i64 xa, .int .i64 xt, .int .i64 q] 74)) hap hg5; have hap5 := hap.grow (ownL.alloc (.cells #[.int .i64 xa, .int .i64 xt, .int .i64 q] 74)) hv5; have hB5 := (since_alloc hBU (.cells #[.int .i64 xa, .int .i64 xt, .int .i64 q] 74)).trans hb5; have Y5 := Y1.grown (.cells #[.int .i64 xa, .int .i64 xt, .int .i64 q] 74) ownD hg5 hDne.out; have hs5 := hB5.size; clear hg5 hv5 hb5 ownL x0 x1 x2 y0 y1 y2 X1 Y1 hap ownD; obtain ⟨y0, y1, y2⟩ := Y5.got; simp only at y0 y1 y2)
              | (at_builtin; refine wpList_app2 rfl (.tmp 71) (.tmp 73) rfl ELt rfl rfl (ownL5.alloc _) (m := 1) (news := (⟨xa, xt, xq - q⟩ : Lt).cells) rfl (by decide) (Sl.new_ _ _ _) (Lt.one _) (by unfold maxLen; omega) (by omega) (by simp only [World.size_alloc]; omega) ?_; intro A6 c6 w6 hown6 hg6 hv6 hb6)
              | fail)
            have ownD6 := own_apart (hown5.alloc (.cells #[.int .i64 xa, .int .i64 xt, .int .i64 (xq - q)] 74)) hap5.symm hg6
            have hap6 := (hap5.symm.grow (hown5.alloc (.cells #[.int .i64 xa, .int .i64 xt, .int .i64 (xq - q)] 74)) hv6).symm
            have hB6 := (since_alloc hB5 (.cells #[.int .i64 xa, .int .i64 xt, .int .i64 (xq - q)] 74)).trans hb6
            go_roundw
            case rel => exact ⟨k + 1, 0, D ++ [(⟨xa, xt, q⟩ : Lt)], L ++ [(⟨xa, xt, xq - q⟩ : Lt)], A5, c5, A6, c6, by omega, by go_num, rfl, by first | rfl | simp, by first | rfl | simp, by simpa [rc] using ownD6, by simpa [rc] using hown6, by simpa using hap6, HDL.out, HLL.out, HQ2.out.1, HQ2.out.2, HND.out, HNL.out, hB6⟩
            case measure => simp [intOf]; omega
          · have hb1 : (xa == a) = true := by simpa using h1.1
            have hc3 : q < xq := h1.2.1
            have hw1 : IntKind.i64.wrap 0 = 0 := rfl
            have hw2 : IntKind.i64.wrap (xq - q) = xq - q := IntWalk.i64_in _ (by unfold In64 at *; omega)
            have hc5 : 0 < xq - q := by omega
            have HP : Hid ((if xa = a then min xq q else 0) = q) := Lib.hid (by rw [if_pos h1.1]; omega)
            have hc4 : ¬ 0 < q := h1.2.2
            have HC : Hid (drawF a q ((⟨xa, xt, xq⟩ : Lt) :: l.drop (k + 1)) = ((⟨xa, xt, q⟩ : Lt) :: (drawF a (0) (l.drop (k + 1))).1, (⟨xa, xt, xq - q⟩ : Lt) :: (drawF a (0) (l.drop (k + 1))).2)) := Lib.hid (by have e := draw_cons a q (⟨xa, xt, xq⟩ : Lt) (l.drop (k + 1)) HP.out; rw [show q - q = 0 from by omega, show xq - q = xq - q from by omega] at e; exact e)
            have HND : Hid ((D) ++ someL (drawF a (0) (l.drop (k + 1))).1 = TD) := Lib.hid (by have e := HTD.out; rw [HD.out, HC.out] at e; rw [some_zero (show (⟨xa, xt, q⟩ : Lt).qty = 0 from by show q = 0; omega)] at e; exact e)
            have HNL : Hid ((L ++ [(⟨xa, xt, xq - q⟩ : Lt)]) ++ someL (drawF a (0) (l.drop (k + 1))).2 = TL) := Lib.hid (by have e := HTL.out; rw [HD.out, HC.out] at e; rw [some_pos (show (⟨xa, xt, xq - q⟩ : Lt).qty ≠ 0 from by show xq - q ≠ 0; omega)] at e; rw [List.append_assoc]; exact e)
            have HQ2 := Lib.hid (show (0 : Int) ≤ 0 ∧ 0 ≤ q0 by omega)
            have HDL := Lib.hid (show (D).length ≤ k + 1 by have := HDk.out; (try rw [List.length_append]); simp; omega)
            have HLL := Lib.hid (show (L ++ [(⟨xa, xt, xq - q⟩ : Lt)]).length ≤ k + 1 by have := HLk.out; (try rw [List.length_append]); simp; omega)
            clear HTD HTL HD HP HC hq1 hq2 hxp hx64 hq64 h1
            obtain ⟨x0, x1, x2⟩ := X0.got
            obtain ⟨y0, y1, y2⟩ := Y0.got
            simp only at x0 x1 x2 y0 y1 y2
            have hcs := @cell_set
            have X1 := (X0.setQ q).far (p := ⟨wr.heap.size, 2, none⟩) hxy.symm (.int .i64 (xq - q))
            have Y1 := (Y0.far (p := ⟨wr.heap.size + 1, 2, none⟩) hxy (.int .i64 q)).setQ (xq - q)
            have hAU := Below.setCell (Below.setCell hAF (p := ⟨wr.heap.size + 1, 2, none⟩) hxg (.int .i64 q)) (p := ⟨wr.heap.size, 2, none⟩) hyg (.int .i64 (xq - q))
            simp only at X1 Y1
            go_upto_region 18 with fail
            generalize hWU : ((FW.setCell ⟨wr.heap.size + 1, 2, none⟩ (.int .i64 q)).setCell ⟨wr.heap.size, 2, none⟩ (.int .i64 (xq - q))) = U at *
            clear hWU x0 x1 x2 y0 y1 y2 X0 Y0 hAF hfx hfy hcs
            have hDne := Lib.hid (own_ne_ge ownD hyg)
            have ownD := own_below ownD hAU
            have ownL := own_below ownL hAU
            have hBU := hB.trans (hAU.mono hB.size)
            have hsU := hBU.size
            clear hAU
            obtain ⟨x0, x1, x2⟩ := X1.got
            obtain ⟨y0, y1, y2⟩ := Y1.got
            simp only at x0 x1 x2 y0 y1 y2
            go_wp2_with (first
              | (at_builtin; refine wpList_app2 rfl (.tmp 71) (.tmp 73) rfl ELt rfl rfl (ownL.alloc _) (m := 1) (news := (⟨xa, xt, xq - q⟩ : Lt).cells) rfl (by decide) (Sl.new_ _ _ _) (Lt.one _) (by unfold maxLen; omega) (by omega) (by simp only [World.size_alloc]; omega) ?_; intro A6 c6 w6 hown6 hg6 hv6 hb6)
              | fail)
            have ownD6 := own_apart (ownD.alloc (.cells #[.int .i64 xa, .int .i64 xt, .int .i64 (xq - q)] 74)) hap.symm hg6
            have hap6 := (hap.symm.grow (ownD.alloc (.cells #[.int .i64 xa, .int .i64 xt, .int .i64 (xq - q)] 74)) hv6).symm
            have hB6 := (since_alloc hBU (.cells #[.int .i64 xa, .int .i64 xt, .int .i64 (xq - q)] 74)).trans hb6
            go_roundw
            case rel => exact ⟨k + 1, 0, D, L ++ [(⟨xa, xt, xq - q⟩ : Lt)], A1, c1, A6, c6, by omega, by go_num, rfl, by first | rfl | simp, by first | rfl | simp, ownD6, by simpa [rc] using hown6, by simpa using hap6, HDL.out, HLL.out, HQ2.out.1, HQ2.out.2, HND.out, HNL.out, hB6⟩
            case measure => simp [intOf]; omega
          · have hb1 : (xa == a) = true := by simpa using h1.1
            have hc3 : ¬ q < xq := h1.2
            have hc4 : 0 < xq := hxp
            have hw1 : IntKind.i64.wrap (q - xq) = q - xq := IntWalk.i64_in _ (by unfold In64 at *; omega)
            have hw2 : IntKind.i64.wrap 0 = 0 := rfl
            have HP : Hid ((if xa = a then min xq q else 0) = xq) := Lib.hid (by rw [if_pos h1.1]; omega)
            have HC : Hid (drawF a q ((⟨xa, xt, xq⟩ : Lt) :: l.drop (k + 1)) = ((⟨xa, xt, xq⟩ : Lt) :: (drawF a (q - xq) (l.drop (k + 1))).1, (⟨xa, xt, 0⟩ : Lt) :: (drawF a (q - xq) (l.drop (k + 1))).2)) := Lib.hid (by have e := draw_cons a q (⟨xa, xt, xq⟩ : Lt) (l.drop (k + 1)) HP.out; rw [show q - xq = q - xq from by omega, show xq - xq = 0 from by omega] at e; exact e)
            have HND : Hid ((D ++ [(⟨xa, xt, xq⟩ : Lt)]) ++ someL (drawF a (q - xq) (l.drop (k + 1))).1 = TD) := Lib.hid (by have e := HTD.out; rw [HD.out, HC.out] at e; rw [some_pos (show (⟨xa, xt, xq⟩ : Lt).qty ≠ 0 from by show xq ≠ 0; omega)] at e; rw [List.append_assoc]; exact e)
            have HNL : Hid ((L) ++ someL (drawF a (q - xq) (l.drop (k + 1))).2 = TL) := Lib.hid (by have e := HTL.out; rw [HD.out, HC.out] at e; rw [some_zero (show (⟨xa, xt, 0⟩ : Lt).qty = 0 from by show 0 = 0; omega)] at e; exact e)
            have HQ2 := Lib.hid (show (0 : Int) ≤ q - xq ∧ q - xq ≤ q0 by omega)
            have HDL := Lib.hid (show (D ++ [(⟨xa, xt, xq⟩ : Lt)]).length ≤ k + 1 by have := HDk.out; (try rw [List.length_append]); simp; omega)
            have HLL := Lib.hid (show (L).length ≤ k + 1 by have := HLk.out; (try rw [List.length_append]); simp; omega)
            clear HTD HTL HD HP HC hq1 hq2 hxp hx64 hq64 h1
            obtain ⟨x0, x1, x2⟩ := X0.got
            obtain ⟨y0, y1, y2⟩ := Y0.got
            simp only at x0 x1 x2 y0 y1 y2
            have hcs := @cell_set
            have X1 := X0.far (p := ⟨wr.heap.size, 2, none⟩) hxy.symm (.int .i64 (0))
            have Y1 := Y0.setQ (0)
            have hAU := Below.setCell hAF (p := ⟨wr.heap.size, 2, none⟩) hyg (.int .i64 (0))
            simp only at X1 Y1
            go_upto_region 18 with fail
            generalize hWU : (FW.setCell ⟨wr.heap.size, 2, none⟩ (.int .i64 (0))) = U at *
            clear hWU x0 x1 x2 y0 y1 y2 X0 Y0 hAF hfx hfy hcs
            have hDne := Lib.hid (own_ne_ge ownD hyg)
            have ownD := own_below ownD hAU
            have ownL := own_below ownL hAU
            have hBU := hB.trans (hAU.mono hB.size)
            have hsU := hBU.size
            clear hAU
            obtain ⟨x0, x1, x2⟩ := X1.got
            obtain ⟨y0, y1, y2⟩ := Y1.got
            simp only at x0 x1 x2 y0 y1 y2
            go_wp2_with (first
              | (at_builtin; refine wpList_app2 rfl (.tmp 64) (.tmp 66) rfl ELt rfl rfl (ownD.alloc _) (m := 1) (news := (⟨xa, xt, xq⟩ : Lt).cells) rfl (by decide) (Sl.new_ _ _ _) (Lt.one _) (by unfold maxLen; omega) (by omega) (by simp only [World.size_alloc]; omega) ?_; intro A5 c5 w5 hown5 hg5 hv5 hb5; have ownL5 := own_apart (ownL.alloc (.cells #[.int .i64 xa, .int .i64 xt, .int .i64 xq] 74)) hap hg5; have hap5 := hap.grow (ownL.alloc (.cells #[.int .i64 xa, .int .i64 xt, .int .i64 xq] 74)) hv5; have hB5 := (since_alloc hBU (.cells #[.int .i64 xa, .int .i64 xt, .int .i64 xq] 74)).trans hb5; have Y5 := Y1.grown (.cells #[.int .i64 xa, .int .i64 xt, .int .i64 xq] 74) ownD hg5 hDne.out; have hs5 := hB5.size; clear hg5 hv5 hb5 ownL x0 x1 x2 y0 y1 y2 X1 Y1 hap ownD; obtain ⟨y0, y1, y2⟩ := Y5.got; simp only at y0 y1 y2)
              | fail)
            go_roundw
            case rel => exact ⟨k + 1, q - xq, D ++ [(⟨xa, xt, xq⟩ : Lt)], L, A5, c5, A2, c2, by omega, by go_num, rfl, by first | rfl | simp, by first | rfl | simp, by simpa [rc] using hown5, ownL5, by simpa using hap5, HDL.out, HLL.out, HQ2.out.1, HQ2.out.2, HND.out, HNL.out, hB5⟩
            case measure => simp [intOf]; omega
      · obtain rfl : k = l.length := by omega
        have hTD := HTD.out
        have hTL := HTL.out
        rw [List.drop_eq_nil_of_le (Nat.le_refl _)] at hTD hTL
        simp only [drawF, someL, List.filter_nil, List.append_nil] at hTD hTL
        subst hTD
        subst hTL
        clear HTD HTL hn hcz
        go_wp2_with fail
        (try simp only [Exit.inBlock, Exit.then]); refine bodyPost_ret (results_tmp3 rfl _ _ _) rfl ?_
        exact ⟨⟨A1, c1, A2, c2, rfl, own_base ownD hWs, own_base ownL hWs⟩, hBW.trans (hB.mono hWs)⟩
end Go.Proofs.Ytfagpdnckmaomaa
