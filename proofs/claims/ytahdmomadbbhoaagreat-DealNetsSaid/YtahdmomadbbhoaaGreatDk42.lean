import Derived.Test.YtahdmomadbbhoaaGreatDk13
import Derived.Test.YtahdmomadbbhoaaGreatDk33
section
namespace Go.Proofs.YtahdmomadbbhoaaGreat
open Go.ChangeShapes Go.WideShapes Go.ChangeAt Go.RowKit
set_option linter.unusedVariables false
set_option linter.unusedSimpArgs false

theorem sums_len (cs : List Pc) (t : Int) : (sumsH cs t).length = cs.length := by simp [sumsH]
theorem sums_in {cs : List Pc} (h6 : ∀ g ∈ cs, ∀ y ∈ g.L, In64 y.qty) (hcl : ∀ g ∈ cs, g.L.length ≤ 900000) (t : Int) : ∀ x ∈ sumsH cs t, In128 x := by
  intro q hq
  obtain ⟨y, hy, rfl⟩ := List.mem_map.1 hq
  have := getG_in (h6 y hy) t
  unfold In64 at this
  unfold In128
  omega
theorem sums_snoc (cs : List Pc) (t : Int) (k : Nat) (h : k < cs.length) : sumsH (cs.take (k + 1)) t = sumsH (cs.take k) t ++ [getG cs[k].L t] := by
  unfold sumsH
  rw [take_snoc cs k h, List.map_append]; rfl
theorem sums_128 {cs : List Pc} (h6 : ∀ g ∈ cs, ∀ y ∈ g.L, In64 y.qty) (hcl : ∀ g ∈ cs, g.L.length ≤ 900000) (t : Int) (hl : cs.length ≤ 900000) : In128 (sumsH cs t).sum := by
  have key : ∀ ds : List Pc, (∀ g ∈ ds, ∀ y ∈ g.L, In64 y.qty) → (∀ g ∈ ds, g.L.length ≤ 900000) → -((ds.length : Int) * 9223372036854775808) ≤ (sumsH ds t).sum ∧ (sumsH ds t).sum ≤ (ds.length : Int) * 9223372036854775808 := by
    intro ds
    induction ds with
    | nil => intro _ _; simp [sumsH]
    | cons g r ih =>
      intro h1 h2
      have i := ih (fun x hx => h1 x (List.mem_cons_of_mem _ hx)) (fun x hx => h2 x (List.mem_cons_of_mem _ hx))
      have b := getG_in (h1 g (by simp)) t
      unfold In64 at b
      have e : (sumsH (g :: r) t).sum = getG g.L t + (sumsH r t).sum := by simp [sumsH]
      rw [e, List.length_cons]
      omega
  have h := key cs h6 hcl
  unfold In128
  omega
set_option maxHeartbeats 4000000 in
set_option maxRecDepth 100000 in
theorem bopen_any (A : Option Addr) (cap : Nat) (l : List Po) (cs : List Pc) (a : Int) (w : World) (hl : l.length ≤ 900000) (hcl : ∀ g ∈ cs, g.L.length ≤ 900000) (h6 : ∀ g ∈ cs, ∀ y ∈ g.L, In64 y.qty) (hs : Sl w A (rc Po.cells l)) (ht : PoTab w l cs) :
    Calls Tryz.prog 47 #[.slice A l.length cap, .int .i64 a] w fun e w' => e = .returned (.agg #[.int .i64 (hiN (sumsH cs a).sum), .int .u64 (loN (sumsH cs a).sum)]) ∧ Below w.heap.size w w' := by
  have HLC := Lib.hid ht.1
  have hlcs : cs.length ≤ 900000 := by have := HLC.out; omega
  have HQI := Lib.hid (sums_in h6 hcl a)
  have HQL := Lib.hid (sums_len cs a)
  have H6 := Lib.hid h6
  have HCL := Lib.hid hcl
  have H128 := Lib.hid (sums_128 h6 hcl a hlcs)
  have hB0 := since_alloc (Below.refl _ w) (.cells #[.int .i64 0, .int .u64 0] 56)
  have G0 := T2.new w 0 0 56
  have hs0 := hs.alloc (.cells #[.int .i64 0, .int .u64 0] 56)
  have ht0 := ht.below hB0
  clear hs h6 hcl ht
  go_enter Tryz.func47, Tryz.ntmps47
  go_upto_region 1 with fail
  generalize hWW : w.alloc (.cells #[.int .i64 0, .int .u64 0] 56) = W at *
  have ht0 : PoTab W l cs := ht0
  clear hWW
  have hWs := hB0.size
  go_wp2_with (first
    | (at_make; refine wpList_mk rfl (.const (.int .i64 0)) (.tmp 11) rfl EWd l.length rfl rfl rfl (by omega) (by unfold maxLen; omega) (Nat.le_refl _) ?_; intro W2 hownW hbW)
    | fail)
  go_loopw [5, 15] (fun out i wr => ∃ (k : Nat) (A' : Option Addr) (c' : Nat), k ≤ l.length ∧ i = .int .i64 k ∧ out = .slice A' (sumsH (cs.take k) a).length c' ∧ wr.ownsRow W.heap.size 56 2 (.slice A' (sumsH (cs.take k) a).length c') (sumsH (cs.take k) a).length (wcells (sumsH (cs.take k) a)) ∧ Below W.heap.size W wr) (fun _ i _ => l.length - (intOf i).toNat)
  case atStart => exact ⟨0, _, _, by omega, rfl, rfl, by simpa [sumsH, wcells] using hownW, hbW⟩
  case round =>
    obtain ⟨k, A', c', hk, rfl, rfl, hown, hB⟩ := hrel
    clear hownW hbW
    by_cases hlt : k < l.length
    · have hlc : k < cs.length := HLC.out ▸ hlt
      obtain ⟨b, o, rfl, hbw, hg⟩ := (hs0.below hB).po hlt
      have hI := (ht0.below hB).2 k hlt hlc
      have hlk : (k : Int) < (l.length : Int) := by omega
      have hge : (0 : Int) ≤ (k : Int) := by omega
      have HN := Lib.hid (sums_snoc cs a k hlc)
      have hq6 := H6.out _ (List.getElem_mem hlc)
      have hm := HCL.out _ (List.getElem_mem hlc)
      have hrl : (sumsH (cs.take k) a).length ≤ k := by rw [sums_len, List.length_take]; omega
      generalize l[k] = v at *
      generalize cs[k] = d at *
      obtain ⟨va, vc, vt, vL, vC⟩ := v
      obtain ⟨da, dc, dL⟩ := d
      obtain ⟨i0, i1, i2, i3⟩ := hI
      simp only at i0 i1 i2 i3 hm hq6
      subst i0; subst i1; subst i2
      have HN := Lib.hid HN.out
      simp only at HN
      obtain ⟨g0, g1, g2⟩ := hg
      simp only at g0 g1 g2
      obtain ⟨R, hR⟩ : ∃ R, sumsH (cs.take k) a = R := ⟨_, rfl⟩
      rw [hR] at hown HN hrl ⊢
      clear hR
      obtain ⟨vq, hvq⟩ : ∃ q, getG dL a = q := ⟨_, rfl⟩
      have HSU := Lib.hid (vget_any vt vC dL a _ (by omega) (i3.alloc (.cells #[.int .i64 va, .int .i64 vc, .slice vt dL.length vC] 97)))
      have hv6 : In64 vq := by rw [← hvq]; exact getG_in hq6 a
      rw [hvq] at HN HSU
      have HE : Hid (sumsH (cs.take (k + 1)) a = R ++ [vq]) := Lib.hid HN.out
      clear HN hvq i3 hq6
      go_wp2_with fail
      refine HSU.out.mono ?_
      rintro e w1 ⟨rfl, hb⟩
      have hv0 := (Below.refl wr.heap.size wr).alloc (Nat.le_refl _) (.cells #[.int .i64 va, .int .i64 vc, .slice vt dL.length vC] 97)
      have hv1 := since_step hv0 hb
      clear hb
      go_wp2_with fail
      refine (wof_any vq hv6 _).mono ?_
      rintro e w1 ⟨rfl, hb⟩
      have hv1 := since_step hv1 hb
      have hB1 := hB.trans (hv1.mono hB.size)
      have hown1 := own_below hown hv1
      have hsz := hB1.size
      clear hb hv0 hv1 g0 g1 g2 HSU
      go_wp2_with (first
        | (at_builtin; refine wpList_app rfl (.tmp 19) (.tmp 25) rfl EWd rfl rfl (hown1.alloc _) (m := 1) (news := [.int .i64 (hiN vq), .int .u64 (loN vq)]) rfl (Sl.new_ _ _ _) (wide_one vq) (by unfold maxLen; omega) (by omega) (by simp only [World.size_alloc]; omega) ?_; intro A2 c2 w2 hown2 hg2 hb2)
        | fail)
      go_roundw
      case rel =>
        refine ⟨k + 1, A2, c2, by omega, by go_num, ?_, ?_, (since_alloc hB1 _).trans hb2⟩
        · rw [HE.out]; simp
        · rw [HE.out, wcells_snoc]; simpa using hown2
      case measure => simp [intOf]; omega
    · obtain rfl : k = l.length := by omega
      have hT : cs.take l.length = cs := by rw [HLC.out, List.take_length]
      rw [hT] at hown ⊢
      clear hT
      have hck := Lib.hid hlcs
      have HA := wadd_any A' c' (sumsH cs a) wr (by have := HQL.out; omega) HQI.out (Sl.of_own hown)
      rw [wideE_yes H128.out] at HA
      have hB1 := hB0.trans (hB.mono hWs)
      have G1 := T2.below G0 hB
      clear hown
      obtain ⟨z, hz⟩ : ∃ z, (sumsH cs a).sum = z := ⟨_, rfl⟩
      rw [hz] at HA
      have HZ := Lib.hid hz
      clear hz
      generalize (sumsH cs a).length = n at *
      go_wp2_with fail
      refine HA.mono ?_
      rintro e w1 ⟨rfl, hb⟩
      have hB2 := since_step hB1 hb
      have G2 := T2.below G1 hb
      have hcs := @cell_set
      obtain ⟨c0, c1, c2, f1, f2⟩ := id G2
      clear hb
      go_wp2_with fail
      refine bodyPost_ret (v := .agg #[.int .i64 (hiN z), .int .u64 (loN z)]) ?_ rfl ?_
      · have G3 := T2.alloc (T2.set2 G2 (hiN z) (loN z)) (.cells #[.int .i64 (hiN z), .int .u64 (loN z)] 56)
        obtain ⟨d0, d1, d2, _, _⟩ := G3
        generalize World.alloc _ _ = U at *
        simp [results, Tryz.results47, go_sem, d1, d2]
      · refine ⟨by rw [HZ.out], ?_⟩
        repeat' (first | with_reducible exact hB2 | with_reducible refine Below.setCell ?_ ?_ _ | with_reducible refine since_alloc ?_ _)
        all_goals simp
set_option maxHeartbeats 4000000 in
set_option maxRecDepth 100000 in
theorem bbal_any (A : Option Addr) (cap : Nat) (l : List Po) (cs : List Pc) (w : World) (hl : l.length ≤ 900000) (hcl : ∀ g ∈ cs, g.L.length ≤ 900000) (h6 : ∀ g ∈ cs, ∀ y ∈ g.L, In64 y.qty) (hs : Sl w A (rc Po.cells l)) (ht : PoTab w l cs) :
    Calls Tryz.prog 19 #[.slice A l.length cap] w fun e w' => e = .returned (.bool (balP cs)) ∧ Below w.heap.size w w' := by
  have hlcs : cs.length ≤ 900000 := by have := ht.1; omega
  have H128 := Lib.hid (fun k => sums_128 h6 hcl k hlcs)
  have HOP := Lib.hid (fun k V h1 h2 => bopen_any A cap l cs k V hl hcl h6 h1 h2)
  have HT := Lib.hid (And.intro hs ht)
  clear hs ht h6 hcl hlcs
  go_enter Tryz.func19, Tryz.ntmps19
  go_wp2_with fail
  go_loopw [3] (fun i wr => ∃ k : Nat, 1 ≤ k ∧ k ≤ 9 ∧ i = .int .i64 k ∧ (∀ j : Nat, 1 ≤ j → j < k → (sumsH cs (j : Int)).sum = 0) ∧ Below w.heap.size w wr) (fun i _ => 9 - (intOf i).toNat)
  case atStart => exact ⟨1, by omega, by omega, rfl, fun j h1 h2 => absurd h2 (by omega), Below.refl _ _⟩
  case round =>
    obtain ⟨k, hk1, hk9, rfl, hno, hB⟩ := hrel
    by_cases hk : k ≤ 8
    · have hki : (k : Int) ≤ 8 := by omega
      have HO := Lib.hid (HOP.out (k : Int) wr (HT.out.1.below hB) (HT.out.2.below hB))
      have HSG := Lib.hid (fun V => wsign_any (sumsH cs (k : Int)).sum (H128.out _) V)
      have HNO := Lib.hid (fun h : (sumsH cs (k : Int)).sum ≠ 0 => balP_no hk1 hk h)
      have HYE : Hid ((sumsH cs (k : Int)).sum = 0 → ∀ j : Nat, 1 ≤ j → j < k + 1 → (sumsH cs (j : Int)).sum = 0) := Lib.hid (fun h j h1 h2 => by
        rcases Nat.lt_or_ge j k with h' | h'
        · exact hno j h1 h'
        · obtain rfl : j = k := by omega
          exact h)
      generalize (sumsH cs (k : Int)).sum = s at *
      clear hno
      by_cases hs0 : s = 0
      · have HC : Hid (cmpZ s 0 = 0) := Lib.hid (by rw [hs0]; rfl)
        have HN := Lib.hid (HYE.out hs0)
        rw [HC.out] at HSG
        clear hs0 HNO HYE HC
        go_wp2_with fail
        refine HO.out.mono ?_
        rintro e w1 ⟨rfl, hb⟩
        have hB1 := since_step hB hb
        go_wp2_with fail
        refine (HSG.out _).mono ?_
        rintro e w2 ⟨rfl, hb2⟩
        have hB2 := since_step hB1 hb2
        go_wp2_with fail
        go_roundw
        case rel => exact ⟨k + 1, by omega, by omega, by go_num, HN.out, hB2⟩
        case measure => simp [intOf]; omega
      · have HR := Lib.hid (HNO.out hs0)
        have hc : (cmpZ s 0 != 0) = true := by
          unfold cmpZ
          rw [if_neg hs0]
          split <;> rfl
        generalize cmpZ s 0 = z at *
        clear hs0 HNO HYE
        go_wp2_with fail
        refine HO.out.mono ?_
        rintro e w1 ⟨rfl, hb⟩
        have hB1 := since_step hB hb
        go_wp2_with fail
        refine (HSG.out _).mono ?_
        rintro e w2 ⟨rfl, hb2⟩
        have hB2 := since_step hB1 hb2
        go_wp2_with fail
        go_ret
        exact ⟨retB HR.out.symm, hB2⟩
    · have hki : ¬ ((k : Int) ≤ 8) := by omega
      have HR := Lib.hid (balP_yes fun j h1 h2 => hno j h1 (by omega))
      clear hno
      go_wp2_with fail
      go_ret
      exact ⟨retB HR.out.symm, hB⟩
end Go.Proofs.YtahdmomadbbhoaaGreat
end
