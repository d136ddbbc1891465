/-
  Layer 18, seventh part: Sum of the program (laid by gen_lots7.py).
-/
import Derived.Test.YtfagpdnckmaomaaLots6
import Derived.Test.YtfagpdnckmaomaaWide7
import Derived.Test.YtfagpdnckmaomaaW2
namespace Go.Proofs.Ytfagpdnckmaomaa
open Go.ChangeShapes Go.WideShapes Go.ChangeAt Go.RowKit
set_option linter.unusedVariables false
set_option linter.unusedSimpArgs false

theorem EWd : Elem Try.prog 112 52 2 16 := Elem.mk' (z := .agg #[.int .i64 0, .int .u64 0]) (by kernel_rfl) (by kernel_rfl) (by decide) (by decide)
/-- the quantities of an asset's lots -/
def qsL (l : List Lt) (a : Int) : List Int := (l.filter fun x => x.ast == a).map Lt.qty
theorem qsL_len (l : List Lt) (a : Int) : (qsL l a).length ≤ l.length := by unfold qsL; rw [List.length_map]; exact List.length_filter_le _ _
theorem qsL_in {l : List Lt} (h : ∀ y ∈ l, In64 y.qty) (a : Int) : All64 (qsL l a) := by
  intro q hq
  unfold qsL at hq
  obtain ⟨y, hy, rfl⟩ := List.mem_map.1 hq
  exact h y (List.mem_filter.1 hy).1
theorem qsL_snoc (l : List Lt) (a : Int) (k : Nat) (h : k < l.length) : qsL (l.take (k + 1)) a = qsL (l.take k) a ++ (if (l[k].ast == a) = true then [l[k].qty] else []) := by
  unfold qsL
  rw [take_snoc l k h, List.filter_append, List.map_append]
  cases hb : l[k].ast == a <;> simp [hb]
theorem wcells_snoc (l : List Int) (x : Int) : wcells (l ++ [x]) = wcells l ++ [.int .i64 (hiN x), .int .u64 (loN x)] := by simp [wcells]
theorem wide_one (x : Int) : ∀ u ∈ [Value.int .i64 (hiN x), Value.int .u64 (loN x)], u.oneCell' = true := by
  intro u hu
  simp at hu
  rcases hu with rfl | rfl <;> rfl
theorem sum64_128 {l : List Int} (hl : l.length ≤ 1000000) (h : All64 l) : In128 l.sum := by
  have key : ∀ m : List Int, All64 m → -(m.length : Int) * 9223372036854775808 ≤ m.sum ∧ m.sum ≤ (m.length : Int) * 9223372036854775808 := by
    intro m
    induction m with
    | nil => intro _; simp
    | cons a m ih =>
      intro hm
      have h1 := ih (fun x hx => hm x (by simp [hx]))
      have h2 := hm a (by simp)
      unfold In64 at h2
      simp only [List.length_cons, List.sum_cons]
      omega
  have := key l h
  unfold In128
  omega

set_option maxHeartbeats 4000000 in
set_option maxRecDepth 100000 in
theorem lsum_any (A : Option Addr) (cap : Nat) (l : List Lt) (a : Int) (w : World) (hl : l.length ≤ 900000) (hq : ∀ y ∈ l, In64 y.qty) (hs : Sl w A (rc Lt.cells l)) :
    Calls Try.prog 44 #[.slice A l.length cap, .int .i64 a] w fun e w' => e = .returned (.agg #[.int .i64 (hiN (qsL l a).sum), .int .u64 (loN (qsL l a).sum)]) ∧ Below w.heap.size w w' := by
  have HQI := Lib.hid (qsL_in hq a)
  have HQL := Lib.hid (qsL_len l a)
  have HQ := Lib.hid hq
  have H128 := Lib.hid (sum64_128 (by have := HQL.out; omega) HQI.out)
  have hB0 := since_alloc (Below.refl _ w) (.cells #[.int .i64 0, .int .u64 0] 52)
  have G0 := T2.new w 0 0 52
  have hs0 := hs.alloc (.cells #[.int .i64 0, .int .u64 0] 52)
  clear hs hq
  go_enter Try.func44, Try.ntmps44
  go_upto_region 1 with fail
  generalize hWW : w.alloc (.cells #[.int .i64 0, .int .u64 0] 52) = W at *
  clear hWW
  have hWs := hB0.size
  go_wp2_with fail
  go_loopw [5, 12] (fun out i wr => ∃ (k : Nat) (A' : Option Addr) (c' : Nat), k ≤ l.length ∧ i = .int .i64 k ∧ out = .slice A' (qsL (l.take k) a).length c' ∧ wr.ownsRow W.heap.size 52 2 (.slice A' (qsL (l.take k) a).length c') (qsL (l.take k) a).length (wcells (qsL (l.take k) a)) ∧ Below W.heap.size W wr) (fun _ i _ => l.length - (intOf i).toNat)
  case atStart => exact ⟨0, none, 0, by omega, rfl, rfl, own_nil _ _ _, Below.refl _ _⟩
  case round =>
    obtain ⟨k, A', c', hk, rfl, rfl, hown, hB⟩ := hrel
    by_cases hlt : k < l.length
    · obtain ⟨b, o, rfl, hbw, hg⟩ := (hs0.below hB).lt hlt
      have hlk : (k : Int) < (l.length : Int) := by omega
      have hge : (0 : Int) ≤ (k : Int) := by omega
      have HN := Lib.hid (qsL_snoc l a k hlt)
      have hvq := HQ.out _ (List.getElem_mem hlt)
      have hrl : (qsL (l.take k) a).length ≤ k := by have h := qsL_len (l.take k) a; simp only [List.length_take] at h; omega
      generalize l[k] = v at *
      obtain ⟨va, vt, vq⟩ := v
      have HN := Lib.hid HN.out
      simp only at hvq
      obtain ⟨g0, g1, g2⟩ := hg
      simp only at g0 g1 g2
      obtain ⟨R, hR⟩ : ∃ R, qsL (l.take k) a = R := ⟨_, rfl⟩
      rw [hR] at hown HN hrl ⊢
      clear hR
      by_cases h1 : va = a
      · have hN : qsL (l.take (k + 1)) a = R ++ [vq] := by rw [HN.out]; simp [h1]
        have HE := Lib.hid hN
        have hb1 : (va == a) = true := by simpa using h1
        clear HN hN h1
        go_wp2_with fail
        refine (wof_any vq hvq _).mono ?_
        rintro e w1 ⟨rfl, hb⟩
        have hv0 := (Below.refl wr.heap.size wr).alloc (Nat.le_refl _) (.cells #[.int .i64 va, .int .i64 vt, .int .i64 vq] 74)
        have hv1 := since_step hv0 hb
        have hB1 := hB.trans (hv1.mono hB.size)
        have hown1 := own_below hown hv1
        have hsz := hB1.size
        clear hb hv0 hv1 g0 g1 g2
        go_wp2_with (first
          | (at_builtin; refine wpList_app rfl (.tmp 20) (.tmp 24) rfl EWd rfl rfl (hown1.alloc _) (m := 1) (news := [.int .i64 (hiN vq), .int .u64 (loN vq)]) rfl (Sl.new_ _ _ _) (wide_one vq) (by unfold maxLen; omega) (by omega) (by simp only [World.size_alloc]; omega) ?_; intro A2 c2 w2 hown2 hg2 hb2)
          | fail)
        go_roundw
        case rel =>
          refine ⟨k + 1, A2, c2, by omega, by go_num, ?_, ?_, (since_alloc hB1 _).trans hb2⟩
          · rw [HE.out]; simp
          · rw [HE.out, wcells_snoc]; simpa using hown2
        case measure => simp [intOf]; omega
      · have hN : qsL (l.take (k + 1)) a = R := by rw [HN.out]; simp [h1]
        have HE := Lib.hid hN
        have hb1 : (va == a) = false := by simpa using h1
        clear HN hN h1
        have hv0 := (Below.refl wr.heap.size wr).alloc (Nat.le_refl _) (.cells #[.int .i64 va, .int .i64 vt, .int .i64 vq] 74)
        have hB1 := hB.trans (hv0.mono hB.size)
        have hown1 := own_below hown hv0
        clear hv0
        go_wp2_with fail
        go_roundw
        case rel =>
          refine ⟨k + 1, A', c', by omega, by go_num, ?_, ?_, hB1⟩
          · rw [HE.out]
          · rw [HE.out]; exact hown1
        case measure => simp [intOf]; omega
    · obtain rfl : k = l.length := by omega
      rw [List.take_length] at hown ⊢
      have HA := wadd_any A' c' (qsL l a) wr (by have := HQL.out; omega) (fun x hx => (of_in x (HQI.out x hx)).2.2) (Sl.of_own hown)
      rw [wideE_yes H128.out] at HA
      have hB1 := hB0.trans (hB.mono hWs)
      have G1 := T2.below G0 hB
      clear hown
      obtain ⟨z, hz⟩ : ∃ z, (qsL l a).sum = z := ⟨_, rfl⟩
      rw [hz] at HA
      have HZ := Lib.hid hz
      clear hz
      generalize (qsL l a).length = n at *
      go_wp2_with fail
      refine HA.mono ?_
      rintro e w1 ⟨rfl, hb⟩
      have hB2 := since_step hB1 hb
      have G2 := T2.below G1 hb
      have hcs := @cell_set
      obtain ⟨c0, c1, c2, f1, f2⟩ := id G2
      clear hb
      go_wp2_with fail
      refine bodyPost_ret (v := .agg #[.int .i64 (hiN z), .int .u64 (loN z)]) ?_ rfl ?_
      · have G3 := T2.alloc (T2.set2 G2 (hiN z) (loN z)) (.cells #[.int .i64 (hiN z), .int .u64 (loN z)] 52)
        obtain ⟨d0, d1, d2, _, _⟩ := G3
        generalize World.alloc _ _ = U at *
        simp [results, Try.results44, go_sem, d1, d2]
      · refine ⟨by rw [HZ.out], ?_⟩
        repeat' (first | with_reducible exact hB2 | with_reducible refine Below.setCell ?_ ?_ _ | with_reducible refine since_alloc ?_ _)
        all_goals simp
end Go.Proofs.Ytfagpdnckmaomaa
