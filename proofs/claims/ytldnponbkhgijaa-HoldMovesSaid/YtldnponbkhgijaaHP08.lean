import Derived.Deep.CutBlock
import Derived.Deep.CutRange
import Derived.Deep.DeepCutAuto
import Derived.Test.YtldnponbkhgijaaHP03
import Derived.Test.YtldnponbkhgijaaHP06
import Derived.Test.YtldnponbkhgijaaHP07
import Derived.Test.YtldnponbkhgijaaHP02
section
namespace Go.Proofs.Ytldnponbkhgijaa
open Go.ChangeShapes Go.WideShapes Go.ChangeAt Go.RowKit
set_option linter.unusedVariables false
set_option linter.unusedSimpArgs false

theorem BB.set1 {w : World} {g : Nat} {s : Bool} {A : Option Addr} {n c : Nat} (h : BB w g s A n c) (A' : Option Addr) (n' c' : Nat) : BB (w.setCell ⟨g, 1, none⟩ (.slice A' n' c')) g s A' n' c' := by
  obtain ⟨h0, h1, h2, f1, f2⟩ := h
  refine ⟨by simpa using h0, ?_, ?_, by simpa using f1, by simpa using f2⟩ <;> simp [cell_set, h1, h2]
theorem norm_cons0 {R : List Nat} (h : Norm R) (h0 : R ≠ []) : Norm (0 :: R) := by
  refine ⟨bin_cons0 h.1, fun k hk hl => ?_⟩
  cases k with
  | zero => simp at hl; exact absurd hl h0
  | succ k =>
    simp at hk hl
    simpa using h.2 k hk hl
theorem BigAt.twice {w w' : World} {s : Bool} {A A' : Option Addr} {n c c' : Nat} {z : Int} {bits : List Nat} (hl : bits.length = n) (hN : Norm bits) (hs : s = true → bits ≠ []) (hz : z = if s = true then -(bval bits : Int) else (bval bits : Int))
    (h0 : 0 < n) (hr : Sl w' A' (by8 (0 :: bits))) (hc : n + 1 ≤ c' ∧ c' ≤ maxLen) : BigAt w' s A' (n + 1) c' (2 * z) := by
  refine ⟨0 :: bits, by simp [hl], hc.1, hc.2, hr, norm_cons0 hN (by intro e; rw [e] at hl; simp at hl; omega), fun _ => by simp, ?_⟩
  rw [hz]
  cases s <;> simp [bval] <;> omega
set_option maxRecDepth 100000 in
set_option maxHeartbeats 8000000 in
theorem rwide_any (x : Int) (hx : In128 x) (w : World) :
    Calls Try.prog 21 #[.int .i64 (hiN x), .int .u64 (loN x)] w fun e w' => bigR w w' e x ∧ Below w.heap.size w w' := by
  have hsp := split_in hx
  have hh := hi_rng x
  have l1 := lo_nn x
  have l2 := lo_lt x
  obtain ⟨l, hl⟩ := Int.eq_ofNat_of_zero_le l1
  rw [hl] at hsp l2 ⊢
  clear l1 hl hx
  generalize hiN x = h at *
  have hcs := @cell_set
  have HSP := Lib.hid hsp
  clear hsp
  have P4 : BB (w.alloc (.cells #[.bool false, .slice none 0 0] 35)) w.heap.size false none 0 0 := BB.new _ _ _ _ _ _
  go_enter Try.func21, Try.ntmps21
  go_wp2_with fail
  refine (bof_any h _ hh).mono ?_
  rintro e w1 ⟨⟨s, A, n, c, rfl, hf1, X1⟩, hb1⟩
  have n64 : n ≤ 64 := (X1.len (k := 64)).2 (by simp; omega)
  have Q1 := (P4.below hb1).alloc (.cells #[.bool s, .slice A n c] 35)
  have hB1 := since_alloc (since_step (since_alloc (Below.refl _ w) _) hb1) (.cells #[.bool s, .slice A n c] 35)
  have G1 := BB.new w1 s A n c 35
  have X2 := X1.alloc (.cells #[.bool s, .slice A n c] 35)
  have hlt := X1.lt
  have hg : w.heap.size < w1.heap.size := by have := (P4.below hb1).1; exact this
  have hf1' : Fr (w.heap.size + 1) A n := by simpa using hf1
  clear hb1 X1 P4 hf1
  go_upto_region 2 with fail
  have hgW := G1.1
  generalize w1.alloc (.cells #[.bool s, .slice A n c] 35) = W at *
  go_wp2_with fail
  go_loopw [6] (fun i wr => ∃ (k : Nat) (A5 : Option Addr) (n5 c5 : Nat), i = .int .i64 k ∧ k ≤ 64 ∧ n5 ≤ 64 + k ∧ BB wr w1.heap.size s A5 n5 c5 ∧ BigAt wr s A5 n5 c5 (h * 2 ^ k) ∧ BB wr w.heap.size false none 0 0 ∧
      (∀ b o, A5 = some ⟨b, o, none⟩ → 0 < n5 → b ≠ w1.heap.size) ∧ Fr (w.heap.size + 1) A5 n5 ∧ Below w.heap.size w wr) (fun i _ => 64 - (intOf i).toNat)
  case atStart => exact ⟨0, A, n, c, rfl, by omega, by omega, G1, by simpa using X2, Q1, fun b o hA h0 => by have := hlt b o hA h0; omega, hf1', hB1⟩
  case round =>
    obtain ⟨k, A5, n5, c5, rfl, hk, hn5, G, X, Q, hne, hfr, hB⟩ := hrel
    obtain ⟨g0, g1, g2, g3, g4⟩ := _root_.id G
    obtain ⟨q0, q1, q2, q3, q4⟩ := _root_.id Q
    have done : 64 ≤ k ∨ n5 = 0 → h * 2 ^ k = h * 18446744073709551616 := by
      rintro (h1 | h1)
      · obtain rfl : k = 64 := by omega
        rfl
      · have h2 := X.len.1 (Nat.le_of_eq h1)
        have h3 : h * 2 ^ k = 0 := by simp at h2; omega
        have h4 : h = 0 := by
          rcases Int.mul_eq_zero.1 h3 with h5 | h5
          · exact h5
          · exfalso
            have : (0 : Int) < 2 ^ k := Int.pow_pos (by omega)
            omega
        rw [h4]; simp
    have DONE := Lib.hid done
    clear done
    by_cases hlk : k < 64
    · have d1 : decide ((k : Int) < 64) = true := decide_eq_true (by omega)
      have d1' : decide (k < 64) = true := decide_eq_true hlk
      by_cases hn0 : 0 < n5
      · have d2 : decide (0 < (n5 : Int)) = true := decide_eq_true (by omega)
        have d2' : decide (0 < n5) = true := decide_eq_true hn0
        obtain ⟨R, r1, r2, r3, r4, r5, r6, r7⟩ := X.ex
        have R7 := Lib.hid (show BigAt wr s A5 n5 c5 (h * 2 ^ k) ∧ R.length = n5 ∧ Norm R ∧ (s = true → R ≠ []) ∧ h * 2 ^ k = (if s = true then -(bval R : Int) else (bval R : Int)) from ⟨X, r1, r5, r6, r7⟩)
        clear r7 X r6
        go_wp2_with (first
          | (at_builtin; refine wpList_app rfl (.tmp 20) (.tmp 21) rfl EU rfl rfl (own_nil wr.heap.size _ _) (m := 1) (news := by8 [0]) rfl (Sl.new_ _ _ _) (by8_one _) (by decide) (by decide) (by simp) ?_; intro A8 c8 w8 hown8 hg8 hb8; have hb8' : Below wr.heap.size wr w8 := (since_alloc (Below.refl _ _) _).trans hb8; have hr8 := r4.below hb8'; have hz8 := hb8'.size; obtain ⟨u0, u1, u2, u3, u4⟩ := G.below hb8')
          | (at_builtin; refine wpList_app rfl (.tmp 23) (.tmp 25) rfl EU rfl rfl hown8 (m := n5) (news := by8 R) (by rw [by8_length, Nat.mul_one]; exact r1) hr8 (by8_one _) (by unfold maxLen; omega) (by omega) hz8 ?_; intro A9 c9 w9 hown9 hg9 hb9; have hb9' : Below wr.heap.size wr w9 := hb8'.trans hb9; obtain ⟨v0, v1, v2, v3, v4⟩ := G.below hb9')
          | fail)
        have hr9 : Sl w9 A9 (by8 (0 :: R)) := by
          have := Sl.of_own hown9
          simpa [by8] using this
        have hc9 := own_cap' hown9
        have hf9 := Fr.own hown9
        have hwr := hB.size
        have G9 := (G.below hb9').set1 A9 (1 + n5) c9
        have Q9 := (Q.below hb9').far (p := ⟨w1.heap.size, 1, none⟩) (by simp; omega) (.slice A9 (1 + n5) c9)
        have hB9 : Below w.heap.size w (w9.setCell ⟨w1.heap.size, 1, none⟩ (.slice A9 (1 + n5) c9)) := (hB.trans (hb9'.mono hB.size)).setCell (by simp; omega) _
        have hgr : w1.heap.size < wr.heap.size := G.1
        have X9 : BigAt (w9.setCell ⟨w1.heap.size, 1, none⟩ (.slice A9 (1 + n5) c9)) s A9 (1 + n5) c9 (h * 2 ^ (k + 1)) := by
          obtain ⟨X0, e1, e2, e3, e4⟩ := R7.out
          have h9 := BigAt.twice (w := wr) (A := A5) (c := c5) (c' := c9) e1 e2 e3 e4 hn0 hr9 (by omega)
          rw [show n5 + 1 = 1 + n5 from by omega] at h9
          have e5 : h * 2 ^ (k + 1) = 2 * (h * 2 ^ k) := by rw [Int.pow_succ]; rw [← Int.mul_assoc]; omega
          rw [e5]
          exact h9.far (p := ⟨w1.heap.size, 1, none⟩) (fun b o hA h0 => by have := hf9 b o hA h0; simp; omega) _
        go_roundw
        case rel =>
          exact ⟨k + 1, A9, 1 + n5, c9, by go_num, by omega, by omega, G9, X9, Q9, fun b o hA h0 => by have := hf9 b o hA h0; omega, hf9.le (by omega) (Nat.le_refl _), hB9⟩
        case measure => simp [intOf]; omega
      · have hn00 : n5 = 0 := by omega
        have d2 : decide (0 < (n5 : Int)) = false := decide_eq_false (by omega)
        have d2' : decide (0 < n5) = false := decide_eq_false hn0
        have HZ := Lib.hid (DONE.out (Or.inr hn00))
        clear hn00 hn0
        go_upto_region 8 with fail
        rw [HZ.out] at X
        go_region_with (first
          | (go_at_call 85; refine (nat_any l _ (by omega)).mono ?_; rintro e w6 ⟨⟨A6, n6, c6, rfl, hf6, X6⟩, hb6⟩; have G6 := G.drew.below hb6; have Q6 := Q.drew.below hb6; have Z6 := X.drew.below hb6; have hB6 := since_step hB.drew hb6; have n6l : n6 ≤ 64 := (X6.len (k := 64)).2 (by simp; omega); obtain ⟨u0, u1, u2, u3, u4⟩ := _root_.id G6; clear hb6)
          | (go_at_call 52; refine (badd' (by omega) (by omega) Z6 X6).mono ?_; rintro e w7 ⟨⟨s7, A10, n7, d7, rfl, hf7, Z7⟩, hb7⟩; have Q7 := Q6.below hb7; have hB7 := since_step hB6 hb7; obtain ⟨v0, v1, v2, v3, v4⟩ := _root_.id Q7; clear hb7))
        all_goals
          have hw6 := Q6.1
          have hWs : w.heap.size ≤ w6.heap.size := hB6.size
          go_wp2_with fail
          refine bodyPost_ret (v := .agg #[.bool s7, .slice A10 n7 d7]) ?_ rfl ?_
          · simp [results, Try.results21, go_sem, cell_set, v1, v2]
          · refine ⟨⟨s7, A10, n7, d7, rfl, hf7.le hWs (Nat.le_refl _), ?_⟩, ?_⟩
            · rw [HSP.out]; exact (Z7.far (fun b o hA h0 => by have := hf7 b o hA h0; simp; omega) _).far (fun b o hA h0 => by have := hf7 b o hA h0; simp; omega) _
            · repeat' (first | with_reducible exact hB7 | with_reducible refine Below.setCell ?_ ?_ _)
              all_goals first | (simp; done) | (simp; omega)
    · have d1 : decide ((k : Int) < 64) = false := decide_eq_false (by omega)
      have d1' : decide (k < 64) = false := decide_eq_false hlk
      have HZ := Lib.hid (DONE.out (Or.inl (by omega)))
      go_upto_region 8 with fail
      rw [HZ.out] at X
      go_region_with (first
        | (go_at_call 85; refine (nat_any l _ (by omega)).mono ?_; rintro e w6 ⟨⟨A6, n6, c6, rfl, hf6, X6⟩, hb6⟩; have G6 := G.drew.below hb6; have Q6 := Q.drew.below hb6; have Z6 := X.drew.below hb6; have hB6 := since_step hB.drew hb6; have n6l : n6 ≤ 64 := (X6.len (k := 64)).2 (by simp; omega); obtain ⟨u0, u1, u2, u3, u4⟩ := _root_.id G6; clear hb6)
        | (go_at_call 52; refine (badd' (by omega) (by omega) Z6 X6).mono ?_; rintro e w7 ⟨⟨s7, A10, n7, d7, rfl, hf7, Z7⟩, hb7⟩; have Q7 := Q6.below hb7; have hB7 := since_step hB6 hb7; obtain ⟨v0, v1, v2, v3, v4⟩ := _root_.id Q7; clear hb7))
      all_goals
        have hw6 := Q6.1
        have hWs : w.heap.size ≤ w6.heap.size := hB6.size
        go_wp2_with fail
        refine bodyPost_ret (v := .agg #[.bool s7, .slice A10 n7 d7]) ?_ rfl ?_
        · simp [results, Try.results21, go_sem, cell_set, v1, v2]
        · refine ⟨⟨s7, A10, n7, d7, rfl, hf7.le hWs (Nat.le_refl _), ?_⟩, ?_⟩
          · rw [HSP.out]; exact (Z7.far (fun b o hA h0 => by have := hf7 b o hA h0; simp; omega) _).far (fun b o hA h0 => by have := hf7 b o hA h0; simp; omega) _
          · repeat' (first | with_reducible exact hB7 | with_reducible refine Below.setCell ?_ ?_ _)
            all_goals first | (simp; done) | (simp; omega)
end Go.Proofs.Ytldnponbkhgijaa
end
section
namespace Go.Proofs.Ytldnponbkhgijaa
open Go.ChangeShapes Go.WideShapes Go.ChangeAt Go.RowKit
set_option linter.unusedVariables false
set_option linter.unusedSimpArgs false

theorem EWd : Elem Try.prog 116 28 2 16 := Elem.mk' (z := .agg #[.int .i64 0, .int .u64 0]) (by kernel_rfl) (by kernel_rfl) (by decide) (by decide)
def qsL (l : List Lt) (a : Int) : List Int := (l.filter fun x => x.ast == a).map Lt.qty
theorem qsL_len (l : List Lt) (a : Int) : (qsL l a).length ≤ l.length := by unfold qsL; rw [List.length_map]; exact List.length_filter_le _ _
theorem qsL_in {l : List Lt} (h : ∀ y ∈ l, In64 y.qty) (a : Int) : All64 (qsL l a) := by
  intro q hq
  unfold qsL at hq
  obtain ⟨y, hy, rfl⟩ := List.mem_map.1 hq
  exact h y (List.mem_filter.1 hy).1
theorem qsL_snoc (l : List Lt) (a : Int) (k : Nat) (h : k < l.length) : qsL (l.take (k + 1)) a = qsL (l.take k) a ++ (if (l[k].ast == a) = true then [l[k].qty] else []) := by
  unfold qsL
  rw [take_snoc l k h, List.filter_append, List.map_append]
  cases hb : l[k].ast == a <;> simp [hb]
theorem wcells_snoc (l : List Int) (x : Int) : wcells (l ++ [x]) = wcells l ++ [.int .i64 (hiN x), .int .u64 (loN x)] := by simp [wcells]
theorem wide_one (x : Int) : ∀ u ∈ [Value.int .i64 (hiN x), Value.int .u64 (loN x)], u.oneCell' = true := by
  intro u hu
  simp at hu
  rcases hu with rfl | rfl <;> rfl
theorem sum64_128 {l : List Int} (hl : l.length ≤ 1000000) (h : All64 l) : In128 l.sum := by
  have key : ∀ m : List Int, All64 m → -(m.length : Int) * 9223372036854775808 ≤ m.sum ∧ m.sum ≤ (m.length : Int) * 9223372036854775808 := by
    intro m
    induction m with
    | nil => intro _; simp
    | cons a m ih =>
      intro hm
      have h1 := ih (fun x hx => hm x (by simp [hx]))
      have h2 := hm a (by simp)
      unfold In64 at h2
      simp only [List.length_cons, List.sum_cons]
      omega
  have := key l h
  unfold In128
  omega
set_option maxHeartbeats 4000000 in
set_option maxRecDepth 100000 in
theorem lsum_any (A : Option Addr) (cap : Nat) (l : List Lt) (a : Int) (w : World) (hl : l.length ≤ 900000) (hq : ∀ y ∈ l, In64 y.qty) (hs : Sl w A (rc Lt.cells l)) :
    Calls Try.prog 120 #[.slice A l.length cap, .int .i64 a] w fun e w' => e = .returned (.agg #[.int .i64 (hiN (qsL l a).sum), .int .u64 (loN (qsL l a).sum)]) ∧ Below w.heap.size w w' := by
  have HQI := Lib.hid (qsL_in hq a)
  have HQL := Lib.hid (qsL_len l a)
  have HQ := Lib.hid hq
  have H128 := Lib.hid (sum64_128 (by have := HQL.out; omega) HQI.out)
  have hB0 := since_alloc (Below.refl _ w) (.cells #[.int .i64 0, .int .u64 0] 28)
  have G0 := T2.new w 0 0 28
  have hs0 := hs.alloc (.cells #[.int .i64 0, .int .u64 0] 28)
  clear hs hq
  go_enter Try.func120, Try.ntmps120
  go_upto_region 1 with fail
  generalize hWW : w.alloc (.cells #[.int .i64 0, .int .u64 0] 28) = W at *
  clear hWW
  have hWs := hB0.size
  go_wp2_with fail
  go_loopw [5, 12] (fun out i wr => ∃ (k : Nat) (A' : Option Addr) (c' : Nat), k ≤ l.length ∧ i = .int .i64 k ∧ out = .slice A' (qsL (l.take k) a).length c' ∧ wr.ownsRow W.heap.size 28 2 (.slice A' (qsL (l.take k) a).length c') (qsL (l.take k) a).length (wcells (qsL (l.take k) a)) ∧ Below W.heap.size W wr) (fun _ i _ => l.length - (intOf i).toNat)
  case atStart => exact ⟨0, none, 0, by omega, rfl, rfl, own_nil _ _ _, Below.refl _ _⟩
  case round =>
    obtain ⟨k, A', c', hk, rfl, rfl, hown, hB⟩ := hrel
    by_cases hlt : k < l.length
    · obtain ⟨b, o, rfl, hbw, hg⟩ := (hs0.below hB).lt hlt
      have hlk : (k : Int) < (l.length : Int) := by omega
      have hge : (0 : Int) ≤ (k : Int) := by omega
      have HN := Lib.hid (qsL_snoc l a k hlt)
      have hvq := HQ.out _ (List.getElem_mem hlt)
      have hrl : (qsL (l.take k) a).length ≤ k := by have h := qsL_len (l.take k) a; simp only [List.length_take] at h; omega
      generalize l[k] = v at *
      obtain ⟨va, vt, vq⟩ := v
      have HN := Lib.hid HN.out
      simp only at hvq
      obtain ⟨g0, g1, g2⟩ := hg
      simp only at g0 g1 g2
      obtain ⟨R, hR⟩ : ∃ R, qsL (l.take k) a = R := ⟨_, rfl⟩
      rw [hR] at hown HN hrl ⊢
      clear hR
      by_cases h1 : va = a
      · have hN : qsL (l.take (k + 1)) a = R ++ [vq] := by rw [HN.out]; simp [h1]
        have HE := Lib.hid hN
        have hb1 : (va == a) = true := by simpa using h1
        clear HN hN h1
        go_wp2_with fail
        refine (wof_any vq hvq _).mono ?_
        rintro e w1 ⟨rfl, hb⟩
        have hv0 := (Below.refl wr.heap.size wr).alloc (Nat.le_refl _) (.cells #[.int .i64 va, .int .i64 vt, .int .i64 vq] 93)
        have hv1 := since_step hv0 hb
        have hB1 := hB.trans (hv1.mono hB.size)
        have hown1 := own_below hown hv1
        have hsz := hB1.size
        clear hb hv0 hv1 g0 g1 g2
        go_wp2_with (first
          | (at_builtin; refine wpList_app rfl (.tmp 20) (.tmp 24) rfl EWd rfl rfl (hown1.alloc _) (m := 1) (news := [.int .i64 (hiN vq), .int .u64 (loN vq)]) rfl (Sl.new_ _ _ _) (wide_one vq) (by unfold maxLen; omega) (by omega) (by simp only [World.size_alloc]; omega) ?_; intro A2 c2 w2 hown2 hg2 hb2)
          | fail)
        go_roundw
        case rel =>
          refine ⟨k + 1, A2, c2, by omega, by go_num, ?_, ?_, (since_alloc hB1 _).trans hb2⟩
          · rw [HE.out]; simp
          · rw [HE.out, wcells_snoc]; simpa using hown2
        case measure => simp [intOf]; omega
      · have hN : qsL (l.take (k + 1)) a = R := by rw [HN.out]; simp [h1]
        have HE := Lib.hid hN
        have hb1 : (va == a) = false := by simpa using h1
        clear HN hN h1
        have hv0 := (Below.refl wr.heap.size wr).alloc (Nat.le_refl _) (.cells #[.int .i64 va, .int .i64 vt, .int .i64 vq] 93)
        have hB1 := hB.trans (hv0.mono hB.size)
        have hown1 := own_below hown hv0
        clear hv0
        go_wp2_with fail
        go_roundw
        case rel =>
          refine ⟨k + 1, A', c', by omega, by go_num, ?_, ?_, hB1⟩
          · rw [HE.out]
          · rw [HE.out]; exact hown1
        case measure => simp [intOf]; omega
    · obtain rfl : k = l.length := by omega
      rw [List.take_length] at hown ⊢
      have HA := wadd_any A' c' (qsL l a) wr (by have := HQL.out; omega) (fun x hx => (of_in x (HQI.out x hx)).2.2) (Sl.of_own hown)
      rw [wideE_yes H128.out] at HA
      have hB1 := hB0.trans (hB.mono hWs)
      have G1 := T2.below G0 hB
      clear hown
      obtain ⟨z, hz⟩ : ∃ z, (qsL l a).sum = z := ⟨_, rfl⟩
      rw [hz] at HA
      have HZ := Lib.hid hz
      clear hz
      generalize (qsL l a).length = n at *
      go_wp2_with fail
      refine HA.mono ?_
      rintro e w1 ⟨rfl, hb⟩
      have hB2 := since_step hB1 hb
      have G2 := T2.below G1 hb
      have hcs := @cell_set
      obtain ⟨c0, c1, c2, f1, f2⟩ := id G2
      clear hb
      go_wp2_with fail
      refine bodyPost_ret (v := .agg #[.int .i64 (hiN z), .int .u64 (loN z)]) ?_ rfl ?_
      · have G3 := T2.alloc (T2.set2 G2 (hiN z) (loN z)) (.cells #[.int .i64 (hiN z), .int .u64 (loN z)] 28)
        obtain ⟨d0, d1, d2, _, _⟩ := G3
        generalize World.alloc _ _ = U at *
        simp [results, Try.results120, go_sem, d1, d2]
      · refine ⟨by rw [HZ.out], ?_⟩
        repeat' (first | with_reducible exact hB2 | with_reducible refine Below.setCell ?_ ?_ _ | with_reducible refine since_alloc ?_ _)
        all_goals simp
end Go.Proofs.Ytldnponbkhgijaa
end
section
namespace Go.Proofs.Ytldnponbkhgijaa
open Go.ChangeShapes Go.WideShapes Go.ChangeAt Go.RowKit
set_option linter.unusedVariables false
set_option linter.unusedSimpArgs false

theorem qsL_sum (l : List Lt) (a : Int) (k : Nat) (h : k < l.length) : (qsL (l.take (k + 1)) a).sum = (qsL (l.take k) a).sum + (if (l[k].ast == a) = true then l[k].qty else 0) := by
  rw [qsL_snoc l a k h]
  cases hb : l[k].ast == a <;> simp
theorem qsL_take_in {l : List Lt} (h : ∀ y ∈ l, In64 y.qty) (a : Int) (k : Nat) (hl : l.length ≤ 900000) : In128 (qsL (l.take k) a).sum := by
  refine sum64_128 ?_ (qsL_in (fun y hy => h y (List.mem_of_mem_take hy)) a)
  have := qsL_len (l.take k) a
  simp only [List.length_take] at this
  omega
set_option maxHeartbeats 4000000 in
set_option maxRecDepth 100000 in
theorem rsum_any (A : Option Addr) (cap : Nat) (l : List Lt) (a : Int) (w : World) (hl : l.length ≤ 900000) (hq : ∀ y ∈ l, In64 y.qty) (hs : Sl w A (rc Lt.cells l)) :
    Calls Try.prog 128 #[.slice A l.length cap, .int .i64 a] w fun e w' => bigR w w' e (qsL l a).sum ∧ Below w.heap.size w w' := by
  have HQQ := Lib.hid hq
  have hB0 := since_alloc (Below.refl _ w) (.cells #[.bool false, .slice none 0 0] 35)
  have G0 := BX.new (w := w) (B := w.heap.size + 1 + 1) (by omega) 35
  have hs0 := hs.alloc (.cells #[.bool false, .slice none 0 0] 35)
  have hWe : (w.alloc (.cells #[.bool false, .slice none 0 0] 35)).heap.size = w.heap.size + 1 := World.size_alloc _ _
  clear hs hq
  go_enter Try.func128, Try.ntmps128
  go_upto_region 1 with fail
  generalize hWW : w.alloc (.cells #[.bool false, .slice none 0 0] 35) = W at *
  clear hWW
  have hWs := hB0.size
  rw [← hWe] at G0
  clear hWe
  go_wp2_with fail
  go_loopw [6] (fun i wr => ∃ (k : Nat) (s : Bool) (A' : Option Addr) (n' c' : Nat), k ≤ l.length ∧ i = .int .i64 k ∧ BX (W.heap.size + 1) wr W.heap.size s A' n' c' (qsL (l.take k) a).sum ∧ Below W.heap.size W wr) (fun i _ => l.length - (intOf i).toNat)
  case atStart => exact ⟨0, false, none, 0, 0, by omega, rfl, BX.new (by omega) _, since_alloc (Below.refl _ _) _⟩
  case round =>
    obtain ⟨k, s6, A6, n6, c6, hk, rfl, X6, hB⟩ := hrel
    by_cases hlt : k < l.length
    · obtain ⟨b, o, rfl, hbw, hg⟩ := hs0.lt hlt
      have hlk : (k : Int) < (l.length : Int) := by omega
      have hge : (0 : Int) ≤ (k : Int) := by omega
      have hN := qsL_sum l a k hlt
      have hvq := HQQ.out _ (List.getElem_mem hlt)
      have H128 := Lib.hid (qsL_take_in HQQ.out a k hl)
      obtain ⟨v, hv⟩ : ∃ v, l[k] = v := ⟨_, rfl⟩
      rw [hv] at hN hvq hg
      clear hv
      obtain ⟨va, vt, vq⟩ := v
      simp only at hN hvq
      have HG : Hid (∀ V, Below W.heap.size W V → Lt.at ⟨va, vt, vq⟩ V b (o + k * 3)) := Lib.hid fun V hV => Lt.at_keep (w := W) hg fun i => hV.cell (p := ⟨b, i, none⟩) hbw
      unfold Lt.at at HG
      simp only at HG
      obtain ⟨y, hy⟩ : ∃ y, (qsL (l.take k) a).sum = y := ⟨_, rfl⟩
      rw [hy] at hN X6 H128
      have HV64 := Lib.hid hvq
      have HQ := Lib.hid (fun W => bof_any vq W hvq)
      clear hy hg hvq
      obtain ⟨g0, g1, g2⟩ := HG.out _ hB
      by_cases h1 : va = a
      · have HE : Hid ((qsL (l.take (k + 1)) a).sum = y + vq) := Lib.hid (by rw [hN]; simp [h1])
        have hb1 : (va == a) = true := by simpa using h1
        clear hN h1
        have X6 := X6.drew
        go_wp2_with fail
        refine wp_region_held_drew (S := (fun V => Below W.heap.size W V)) (by kernel_rfl) (by exact hB.drew) (fun hHeld => ?_)
        refine wpAnyH_take (i := 1) (oi := { dst := some 22, op := _, type := _, pos := _, after := _, guard := _ }) (v := ?_) rfl (by kernel_rfl) (by kernel_rfl) (by kernel_rfl) (fun _ _ _ h => h) (Or.inl ⟨by rfl, ?_⟩) hHeld ?_
        rotate_left
        · (intro w hSw; obtain ⟨g0, g1, g2⟩ := HG.out _ hSw; go_simp <;> with_reducible rfl)
        try simp only [Act.put, List.setIfInBounds_toArray, List.set_cons_zero, List.set_cons_succ]
        refine wpAnyH_take (i := 2) (oi := { dst := some 23, op := _, type := _, pos := _, after := _, guard := _ }) (v := ?_) rfl (by kernel_rfl) (by kernel_rfl) (by kernel_rfl) (fun _ _ _ h => h) (Or.inl ⟨by rfl, ?_⟩) hHeld ?_
        rotate_left
        · (intro w hSw; obtain ⟨g0, g1, g2⟩ := HG.out _ hSw; go_simp <;> with_reducible rfl)
        try simp only [Act.put, List.setIfInBounds_toArray, List.set_cons_zero, List.set_cons_succ]
        refine wpAnyH_take (i := 3) (oi := { dst := some 24, op := _, type := _, pos := _, after := _, guard := _ }) (v := ?_) rfl (by kernel_rfl) (by kernel_rfl) (by kernel_rfl) (fun _ _ _ h => h) (Or.inl ⟨by rfl, ?_⟩) hHeld ?_
        rotate_left
        · (intro w hSw; obtain ⟨g0, g1, g2⟩ := HG.out _ hSw; go_simp <;> with_reducible rfl)
        try simp only [Act.put, List.setIfInBounds_toArray, List.set_cons_zero, List.set_cons_succ]
        refine wpAnyH_take (i := 4) (oi := { dst := some 25, op := _, type := _, pos := _, after := _, guard := _ }) (v := ?_) rfl (by kernel_rfl) (by kernel_rfl) (by kernel_rfl) (fun _ _ _ h => h) (Or.inl ⟨by rfl, ?_⟩) hHeld ?_
        rotate_left
        · (intro w hSw; obtain ⟨g0, g1, g2⟩ := HG.out _ hSw; go_simp <;> with_reducible rfl)
        try simp only [Act.put, List.setIfInBounds_toArray, List.set_cons_zero, List.set_cons_succ]
        refine wpAnyH_take (i := 5) (oi := { dst := some 26, op := _, type := _, pos := _, after := _, guard := _ }) (v := ?_) rfl (by kernel_rfl) (by kernel_rfl) (by kernel_rfl) (fun _ _ _ h => h) (Or.inl ⟨by rfl, ?_⟩) hHeld ?_
        rotate_left
        · (intro w hSw; obtain ⟨g0, g1, g2⟩ := HG.out _ hSw; go_simp <;> with_reducible rfl)
        try simp only [Act.put, List.setIfInBounds_toArray, List.set_cons_zero, List.set_cons_succ]
        refine wpAnyH_ready (rs := [0, 6]) (by kernel_rfl) (by simp) ?_
        refine AllReadyH.cons (o := { dst := some 21, op := _, type := _, pos := _, after := _, guard := _ }) rfl (fun K hK => ?_) (AllReadyH.cons (o := { dst := some 27, op := _, type := _, pos := _, after := _, guard := _ }) rfl (fun K hK => ?_) AllReadyH.nil)
        · have hHd := hHeld
          obtain ⟨g0, g1, g2⟩ := HG.out _ hHd
          obtain ⟨b1, b2, b3, b4, b5⟩ := id X6.bb
          have hKeep := hHeld
          go_simp
          refine hK.out _ _ (by (try dsimp only); exact hKeep) (fun hHeld => ?_)
          clear hK K hKeep
          try simp only [Act.put, List.setIfInBounds_toArray, List.set_cons_zero, List.set_cons_succ]
          refine wpAnyH_ready (rs := [6]) (by kernel_rfl) (by simp) ?_
          refine AllReadyH.cons (o := { dst := some 27, op := _, type := _, pos := _, after := _, guard := _ }) rfl (fun K hK => ?_) AllReadyH.nil
          go_simp
          refine (HQ.out _).mono ?_
          rintro e u1 ⟨⟨s1, A1, m1, k1, rfl, hf1, Y1⟩, hk1⟩
          have hKeep := since_step hHeld hk1
          have L1 := Y1.l64 HV64.out
          have X6 := X6.below hk1
          go_wp2_with fail
          refine hK.out _ _ (by (try dsimp only); exact hKeep) (fun hHeld => ?_)
          clear hK K hKeep
          try simp only [Act.put, List.setIfInBounds_toArray, List.set_cons_zero, List.set_cons_succ]
          refine wpAnyH_ready (rs := [7]) (by kernel_rfl) (by simp) ?_
          refine AllReadyH.cons (o := { dst := some 28, op := _, type := _, pos := _, after := _, guard := _ }) rfl (fun K hK => ?_) AllReadyH.nil
          go_simp
          have L6 := X6.at_.l128 H128.out
          have hgu := X6.bb.1
          refine (badd' (by omega) (by omega) X6.at_ Y1).mono ?_
          rintro e u2 ⟨⟨s2, A2, m2, k2, rfl, hf2, Y2⟩, hk2⟩
          have hKeep := since_step hHeld hk2
          have X6 := X6.below hk2
          go_wp2_with fail
          refine hK.out _ _ (by (try dsimp only); exact hKeep) (fun hHeld => ?_)
          clear hK K hKeep
          try simp only [Act.put, List.setIfInBounds_toArray, List.set_cons_zero, List.set_cons_succ]
          refine wpAnyH_ready (rs := [8]) (by kernel_rfl) (by simp) ?_
          refine AllReadyH.cons (o := { dst := none, op := _, type := _, pos := _, after := _, guard := _ }) rfl (fun K hK => ?_) AllReadyH.nil
          have hHd := hHeld
          obtain ⟨g0, g1, g2⟩ := HG.out _ hHd
          have hF : Fr (W.heap.size + 1) A2 m2 := hf2.le hgu (Nat.le_refl _)
          have X6n := X6.put Y2 hF
          obtain ⟨b1, b2, b3, b4, b5⟩ := id X6.bb
          have hKeep := Below.setCell (Below.setCell hHeld (p := ⟨W.heap.size, 0, none⟩) (Nat.le_refl _) (.bool s2)) (p := ⟨W.heap.size, 1, none⟩) (Nat.le_refl _) (.slice A2 m2 k2)
          skip
          go_simp
          refine hK.out _ _ (by (try dsimp only); exact hKeep) (fun hHeld => ?_)
          clear hK K hKeep
          try simp only [Act.put, List.setIfInBounds_toArray, List.set_cons_zero, List.set_cons_succ]
          refine wpAnyH_done (by kernel_rfl) ?_ _
          generalize hFW : ((u2.setCell ⟨W.heap.size, 0, none⟩ (.bool s2)).setCell ⟨W.heap.size, 1, none⟩ (.slice A2 m2 k2)) = FW at *
          go_wp2_with fail
          go_roundw
          case rel => exact ⟨k + 1, s2, A2, m2, k2, by omega, by go_num, by rw [HE.out]; exact X6n, hHeld⟩
          case measure => simp [intOf]; omega
        · go_simp
          refine (HQ.out _).mono ?_
          rintro e u1 ⟨⟨s1, A1, m1, k1, rfl, hf1, Y1⟩, hk1⟩
          have hKeep := since_step hHeld hk1
          have L1 := Y1.l64 HV64.out
          have X6 := X6.below hk1
          go_wp2_with fail
          refine hK.out _ _ (by (try dsimp only); exact hKeep) (fun hHeld => ?_)
          clear hK K hKeep
          try simp only [Act.put, List.setIfInBounds_toArray, List.set_cons_zero, List.set_cons_succ]
          refine wpAnyH_ready (rs := [0]) (by kernel_rfl) (by simp) ?_
          refine AllReadyH.cons (o := { dst := some 21, op := _, type := _, pos := _, after := _, guard := _ }) rfl (fun K hK => ?_) AllReadyH.nil
          have hHd := hHeld
          obtain ⟨g0, g1, g2⟩ := HG.out _ hHd
          obtain ⟨b1, b2, b3, b4, b5⟩ := id X6.bb
          have hKeep := hHeld
          go_simp
          refine hK.out _ _ (by (try dsimp only); exact hKeep) (fun hHeld => ?_)
          clear hK K hKeep
          try simp only [Act.put, List.setIfInBounds_toArray, List.set_cons_zero, List.set_cons_succ]
          refine wpAnyH_ready (rs := [7]) (by kernel_rfl) (by simp) ?_
          refine AllReadyH.cons (o := { dst := some 28, op := _, type := _, pos := _, after := _, guard := _ }) rfl (fun K hK => ?_) AllReadyH.nil
          go_simp
          have L6 := X6.at_.l128 H128.out
          have hgu := X6.bb.1
          refine (badd' (by omega) (by omega) X6.at_ Y1).mono ?_
          rintro e u2 ⟨⟨s2, A2, m2, k2, rfl, hf2, Y2⟩, hk2⟩
          have hKeep := since_step hHeld hk2
          have X6 := X6.below hk2
          go_wp2_with fail
          refine hK.out _ _ (by (try dsimp only); exact hKeep) (fun hHeld => ?_)
          clear hK K hKeep
          try simp only [Act.put, List.setIfInBounds_toArray, List.set_cons_zero, List.set_cons_succ]
          refine wpAnyH_ready (rs := [8]) (by kernel_rfl) (by simp) ?_
          refine AllReadyH.cons (o := { dst := none, op := _, type := _, pos := _, after := _, guard := _ }) rfl (fun K hK => ?_) AllReadyH.nil
          have hHd := hHeld
          obtain ⟨g0, g1, g2⟩ := HG.out _ hHd
          have hF : Fr (W.heap.size + 1) A2 m2 := hf2.le hgu (Nat.le_refl _)
          have X6n := X6.put Y2 hF
          obtain ⟨b1, b2, b3, b4, b5⟩ := id X6.bb
          have hKeep := Below.setCell (Below.setCell hHeld (p := ⟨W.heap.size, 0, none⟩) (Nat.le_refl _) (.bool s2)) (p := ⟨W.heap.size, 1, none⟩) (Nat.le_refl _) (.slice A2 m2 k2)
          skip
          go_simp
          refine hK.out _ _ (by (try dsimp only); exact hKeep) (fun hHeld => ?_)
          clear hK K hKeep
          try simp only [Act.put, List.setIfInBounds_toArray, List.set_cons_zero, List.set_cons_succ]
          refine wpAnyH_done (by kernel_rfl) ?_ _
          generalize hFW : ((u2.setCell ⟨W.heap.size, 0, none⟩ (.bool s2)).setCell ⟨W.heap.size, 1, none⟩ (.slice A2 m2 k2)) = FW at *
          go_wp2_with fail
          go_roundw
          case rel => exact ⟨k + 1, s2, A2, m2, k2, by omega, by go_num, by rw [HE.out]; exact X6n, hHeld⟩
          case measure => simp [intOf]; omega
      · have HE : Hid ((qsL (l.take (k + 1)) a).sum = y) := Lib.hid (by rw [hN]; simp [h1])
        have hb1 : (va == a) = false := by simpa using h1
        clear hN h1
        go_wp2_with fail
        go_roundw
        case rel => exact ⟨k + 1, s6, A6, n6, c6, by omega, by go_num, by rw [HE.out]; exact X6, hB⟩
        case measure => simp [intOf]; omega
    · obtain rfl : k = l.length := by omega
      rw [List.take_length] at X6
      have hB1 := hB0.trans (hB.mono hWs)
      have G1 := G0.below hB
      have P := G1.put X6.at_ (X6.fr)
      have hcs := @cell_set
      have HFR := Lib.hid (X6.fr.le (B' := w.heap.size) (by omega) (Nat.le_refl _))
      obtain ⟨x1, x2, x3, x4, x5⟩ := id X6.bb
      obtain ⟨y1, y2, y3, y4, y5⟩ := id G1.bb
      clear hs0
      go_wp2_with fail
      refine bodyPost_ret (v := .agg #[.bool s6, .slice A6 n6 c6]) ?_ rfl ?_
      · obtain ⟨d0, d1, d2, _, _⟩ := P.bb
        generalize World.setCell _ _ _ = U at *
        simp [results, Try.results128, go_sem, d1, d2]
      · refine ⟨⟨s6, A6, n6, c6, rfl, HFR.out, P.at_⟩, ?_⟩
        repeat' (first | with_reducible exact hB1 | with_reducible refine Below.setCell ?_ ?_ _)
        all_goals simp
end Go.Proofs.Ytldnponbkhgijaa
end
section
namespace Go.Proofs.Ytldnponbkhgijaa
open Go.ChangeShapes Go.WideShapes Go.ChangeAt Go.RowKit
set_option linter.unusedVariables false
set_option linter.unusedSimpArgs false
theorem list_eq_ofL {α : Type} {a b : List α} (hl : a.length = b.length) (h : ∀ j, (h1 : j < a.length) → (h2 : j < b.length) → a[j] = b[j]) : a = b := List.ext_getElem hl fun j h1 h2 => h j h1 h2
theorem few18_any (A : Option Addr) (cap : Nat) (l : List Lt) (w : World) (hc : l.length ≤ cap) (hcm : cap ≤ maxLen) (hs : Sl w A (rc Lt.cells l)) :
    Calls Try.prog 57 #[.slice A l.length cap] w fun e w' => e = .returned (.slice A (l.take 20).length cap) ∧ Below w.heap.size w w' := by
  by_cases h : 20 < l.length
  · have hl : (l.take 20).length = 20 := by simp; omega
    rw [hl]
    have h40 : 20 ≤ cap := by omega
    cases A with
    | none => obtain ⟨b, o, e, _⟩ := hs.lt (k := 0) (by omega); cases e
    | some ad =>
      go_enter Try.func57, Try.ntmps57
      go_wp2
      go_ret
      exact ⟨rfl, Below.refl _ _⟩
  · have hl : (l.take 20).length = l.length := by simp; omega
    rw [hl]
    go_enter Try.func57, Try.ntmps57
    go_wp2
    go_ret
    exact ⟨rfl, Below.refl _ _⟩
set_option maxHeartbeats 4000000 in
set_option maxRecDepth 100000 in
theorem rlsame_any (A A2 : Option Addr) (cap cap2 : Nat) (l m : List Lt) (w : World) (hl : l.length ≤ 1000000) (hs : Sl w A (rc Lt.cells l)) (hs2 : Sl w A2 (rc Lt.cells m)) :
    Calls Try.prog 61 #[.slice A l.length cap, .slice A2 m.length cap2] w fun e w' => e = .returned (.bool (decide (l = m))) ∧ Below w.heap.size w w' := by
  by_cases hlen : l.length = m.length
  · go_enter Try.func61, Try.ntmps61
    rw [← hlen]
    have HLM := Lib.hid hlen
    clear hlen
    go_wp2_with fail
    go_loopw [5] (fun i wr => ∃ k : Nat, k ≤ l.length ∧ i = .int .i64 k ∧ (∀ j, (h1 : j < l.length) → (h2 : j < m.length) → j < k → l[j] = m[j]) ∧ Below w.heap.size w wr) (fun i _ => l.length - (intOf i).toNat)
    case atStart => exact ⟨0, by omega, rfl, fun j _ _ h => absurd h (by omega), Below.refl _ _⟩
    case round =>
      obtain ⟨k, hk, rfl, hno, hB⟩ := hrel
      by_cases hlt : k < l.length
      · have hlt2 : k < m.length := by rw [← HLM.out]; exact hlt
        obtain ⟨b, o, rfl, hbw, hg⟩ := hs.lt hlt
        obtain ⟨b2, o2, rfl, hbw2, hg2⟩ := hs2.lt hlt2
        have hbr : b < wr.heap.size := Nat.lt_of_lt_of_le hbw hB.size
        have hbr2 : b2 < wr.heap.size := Nat.lt_of_lt_of_le hbw2 hB.size
        have hsz : w.heap.size ≤ wr.heap.size := hB.size
        have HK1 : Hid (∀ V, Below wr.heap.size wr V → l[k].at V b (o + k * 3)) := Lib.hid fun V hV =>
          Lt.at_keep hg fun i => (hV.cell (p := ⟨b, i, none⟩) hbr).trans (hB.cell (p := ⟨b, i, none⟩) hbw)
        have HK0 : Hid (∀ V, Below wr.heap.size wr V → m[k].at V b2 (o2 + k * 3)) := Lib.hid fun V hV =>
          Lt.at_keep hg2 fun i => (hV.cell (p := ⟨b2, i, none⟩) hbr2).trans (hB.cell (p := ⟨b2, i, none⟩) hbw2)
        have HX : Hid (if l[k] = m[k] then (∀ j, (h1 : j < l.length) → (h2 : j < m.length) → j < k + 1 → l[j] = m[j]) else decide (l = m) = false) := Lib.hid (by
          split
          · rename_i he
            intro j h1 h2 hj
            rcases Nat.lt_or_ge j k with h | h
            · exact hno j h1 h2 h
            · obtain rfl : j = k := by omega
              exact he
          · rename_i he
            rw [decide_eq_false]
            intro e
            subst e
            exact he rfl)
        have hlk : (k : Int) < (l.length : Int) := by omega
        clear hno hs hs2 hg hg2 hbw hbw2
        generalize l[k] = v at HK1 HX
        generalize m[k] = u at HK0 HX
        obtain ⟨f0, f1, f2⟩ := v
        obtain ⟨e0, e1, e2⟩ := u
        unfold Lt.at at HK1 HK0
        simp only at HK1 HK0
        by_cases d0 : f0 = e0
        · subst d0
          by_cases d1 : f1 = e1
          · subst d1
            by_cases d2 : f2 = e2
            · subst d2
              have HN : Hid (∀ j, (h1 : j < l.length) → (h2 : j < m.length) → j < k + 1 → l[j] = m[j]) := Lib.hid (by have := HX.out; rw [if_pos rfl] at this; exact this)
              clear HX
              go_wp2_with fail
              refine wp_region_held_drew (S := (fun V => Below wr.heap.size wr V)) (by kernel_rfl) (by exact (Below.refl _ _).drew) (fun hHeld => ?_)
              refine wpAnyH_take (i := 0) (oi := { dst := some 17, op := _, type := _, pos := _, after := _, guard := _ }) (v := ?_) rfl (by kernel_rfl) (by kernel_rfl) (by kernel_rfl) (fun _ _ _ h => h) (Or.inl ⟨by rfl, ?_⟩) hHeld ?_
              rotate_left
              · (intro w hSw; obtain ⟨g0, g1, g2⟩ := HK1.out _ hSw; obtain ⟨h0, h1, h2⟩ := HK0.out _ hSw; go_simp <;> with_reducible rfl)
              try simp only [Act.put, List.setIfInBounds_toArray, List.set_cons_zero, List.set_cons_succ]
              refine wpAnyH_take (i := 1) (oi := { dst := some 18, op := _, type := _, pos := _, after := _, guard := _ }) (v := ?_) rfl (by kernel_rfl) (by kernel_rfl) (by kernel_rfl) (fun _ _ _ h => h) (Or.inl ⟨by rfl, ?_⟩) hHeld ?_
              rotate_left
              · (intro w hSw; obtain ⟨g0, g1, g2⟩ := HK1.out _ hSw; obtain ⟨h0, h1, h2⟩ := HK0.out _ hSw; go_simp <;> with_reducible rfl)
              try simp only [Act.put, List.setIfInBounds_toArray, List.set_cons_zero, List.set_cons_succ]
              refine wpAnyH_take (i := 2) (oi := { dst := some 19, op := _, type := _, pos := _, after := _, guard := _ }) (v := ?_) rfl (by kernel_rfl) (by kernel_rfl) (by kernel_rfl) (fun _ _ _ h => h) (Or.inl ⟨by rfl, ?_⟩) hHeld ?_
              rotate_left
              · (intro w hSw; obtain ⟨g0, g1, g2⟩ := HK1.out _ hSw; obtain ⟨h0, h1, h2⟩ := HK0.out _ hSw; go_simp <;> with_reducible rfl)
              try simp only [Act.put, List.setIfInBounds_toArray, List.set_cons_zero, List.set_cons_succ]
              refine wpAnyH_take (i := 3) (oi := { dst := some 20, op := _, type := _, pos := _, after := _, guard := _ }) (v := ?_) rfl (by kernel_rfl) (by kernel_rfl) (by kernel_rfl) (fun _ _ _ h => h) (Or.inl ⟨by rfl, ?_⟩) hHeld ?_
              rotate_left
              · (intro w hSw; obtain ⟨g0, g1, g2⟩ := HK1.out _ hSw; obtain ⟨h0, h1, h2⟩ := HK0.out _ hSw; go_simp <;> with_reducible rfl)
              try simp only [Act.put, List.setIfInBounds_toArray, List.set_cons_zero, List.set_cons_succ]
              refine wpAnyH_take (i := 4) (oi := { dst := some 21, op := _, type := _, pos := _, after := _, guard := _ }) (v := ?_) rfl (by kernel_rfl) (by kernel_rfl) (by kernel_rfl) (fun _ _ _ h => h) (Or.inl ⟨by rfl, ?_⟩) hHeld ?_
              rotate_left
              · (intro w hSw; obtain ⟨g0, g1, g2⟩ := HK1.out _ hSw; obtain ⟨h0, h1, h2⟩ := HK0.out _ hSw; go_simp <;> with_reducible rfl)
              try simp only [Act.put, List.setIfInBounds_toArray, List.set_cons_zero, List.set_cons_succ]
              refine wpAnyH_take (i := 5) (oi := { dst := some 22, op := _, type := _, pos := _, after := _, guard := _ }) (v := ?_) rfl (by kernel_rfl) (by kernel_rfl) (by kernel_rfl) (fun _ _ _ h => h) (Or.inl ⟨by rfl, ?_⟩) hHeld ?_
              rotate_left
              · (intro w hSw; obtain ⟨g0, g1, g2⟩ := HK1.out _ hSw; obtain ⟨h0, h1, h2⟩ := HK0.out _ hSw; go_simp <;> with_reducible rfl)
              try simp only [Act.put, List.setIfInBounds_toArray, List.set_cons_zero, List.set_cons_succ]
              refine wpAnyH_take (i := 6) (oi := { dst := some 23, op := _, type := _, pos := _, after := _, guard := _ }) (v := ?_) rfl (by kernel_rfl) (by kernel_rfl) (by kernel_rfl) (fun _ _ _ h => h) (Or.inl ⟨by rfl, ?_⟩) hHeld ?_
              rotate_left
              · (intro w hSw; obtain ⟨g0, g1, g2⟩ := HK1.out _ hSw; obtain ⟨h0, h1, h2⟩ := HK0.out _ hSw; go_simp <;> with_reducible rfl)
              try simp only [Act.put, List.setIfInBounds_toArray, List.set_cons_zero, List.set_cons_succ]
              refine wpAnyH_take (i := 7) (oi := { dst := some 24, op := _, type := _, pos := _, after := _, guard := _ }) (v := ?_) rfl (by kernel_rfl) (by kernel_rfl) (by kernel_rfl) (fun _ _ _ h => h) (Or.inl ⟨by rfl, ?_⟩) hHeld ?_
              rotate_left
              · (intro w hSw; obtain ⟨g0, g1, g2⟩ := HK1.out _ hSw; obtain ⟨h0, h1, h2⟩ := HK0.out _ hSw; go_simp <;> with_reducible rfl)
              try simp only [Act.put, List.setIfInBounds_toArray, List.set_cons_zero, List.set_cons_succ]
              refine wpAnyH_take (i := 8) (oi := { dst := some 25, op := _, type := _, pos := _, after := _, guard := _ }) (v := ?_) rfl (by kernel_rfl) (by kernel_rfl) (by kernel_rfl) (fun _ _ _ h => h) (Or.inl ⟨by rfl, ?_⟩) hHeld ?_
              rotate_left
              · (intro w hSw; obtain ⟨g0, g1, g2⟩ := HK1.out _ hSw; obtain ⟨h0, h1, h2⟩ := HK0.out _ hSw; go_simp <;> with_reducible rfl)
              try simp only [Act.put, List.setIfInBounds_toArray, List.set_cons_zero, List.set_cons_succ]
              refine wpAnyH_done (by kernel_rfl) ?_ _
              have hB2 := hB.trans (hHeld.mono hsz)
              go_wp2_with fail
              go_roundw
              case rel => exact ⟨k + 1, by omega, by go_num, HN.out, hB2⟩
              case measure => simp [intOf]; omega
            · have HN : Hid (decide (l = m) = false) := Lib.hid (by have := HX.out; rw [if_neg (by simp [d2])] at this; exact this)
              clear HX
              go_wp2_with fail
              refine wp_region_held_drew (S := (fun V => Below wr.heap.size wr V)) (by kernel_rfl) (by exact (Below.refl _ _).drew) (fun hHeld => ?_)
              refine wpAnyH_take (i := 0) (oi := { dst := some 17, op := _, type := _, pos := _, after := _, guard := _ }) (v := ?_) rfl (by kernel_rfl) (by kernel_rfl) (by kernel_rfl) (fun _ _ _ h => h) (Or.inl ⟨by rfl, ?_⟩) hHeld ?_
              rotate_left
              · (intro w hSw; obtain ⟨g0, g1, g2⟩ := HK1.out _ hSw; obtain ⟨h0, h1, h2⟩ := HK0.out _ hSw; go_simp <;> with_reducible rfl)
              try simp only [Act.put, List.setIfInBounds_toArray, List.set_cons_zero, List.set_cons_succ]
              refine wpAnyH_take (i := 1) (oi := { dst := some 18, op := _, type := _, pos := _, after := _, guard := _ }) (v := ?_) rfl (by kernel_rfl) (by kernel_rfl) (by kernel_rfl) (fun _ _ _ h => h) (Or.inl ⟨by rfl, ?_⟩) hHeld ?_
              rotate_left
              · (intro w hSw; obtain ⟨g0, g1, g2⟩ := HK1.out _ hSw; obtain ⟨h0, h1, h2⟩ := HK0.out _ hSw; go_simp <;> with_reducible rfl)
              try simp only [Act.put, List.setIfInBounds_toArray, List.set_cons_zero, List.set_cons_succ]
              refine wpAnyH_take (i := 2) (oi := { dst := some 19, op := _, type := _, pos := _, after := _, guard := _ }) (v := ?_) rfl (by kernel_rfl) (by kernel_rfl) (by kernel_rfl) (fun _ _ _ h => h) (Or.inl ⟨by rfl, ?_⟩) hHeld ?_
              rotate_left
              · (intro w hSw; obtain ⟨g0, g1, g2⟩ := HK1.out _ hSw; obtain ⟨h0, h1, h2⟩ := HK0.out _ hSw; go_simp <;> with_reducible rfl)
              try simp only [Act.put, List.setIfInBounds_toArray, List.set_cons_zero, List.set_cons_succ]
              refine wpAnyH_take (i := 3) (oi := { dst := some 20, op := _, type := _, pos := _, after := _, guard := _ }) (v := ?_) rfl (by kernel_rfl) (by kernel_rfl) (by kernel_rfl) (fun _ _ _ h => h) (Or.inl ⟨by rfl, ?_⟩) hHeld ?_
              rotate_left
              · (intro w hSw; obtain ⟨g0, g1, g2⟩ := HK1.out _ hSw; obtain ⟨h0, h1, h2⟩ := HK0.out _ hSw; go_simp <;> with_reducible rfl)
              try simp only [Act.put, List.setIfInBounds_toArray, List.set_cons_zero, List.set_cons_succ]
              refine wpAnyH_take (i := 4) (oi := { dst := some 21, op := _, type := _, pos := _, after := _, guard := _ }) (v := ?_) rfl (by kernel_rfl) (by kernel_rfl) (by kernel_rfl) (fun _ _ _ h => h) (Or.inl ⟨by rfl, ?_⟩) hHeld ?_
              rotate_left
              · (intro w hSw; obtain ⟨g0, g1, g2⟩ := HK1.out _ hSw; obtain ⟨h0, h1, h2⟩ := HK0.out _ hSw; go_simp <;> with_reducible rfl)
              try simp only [Act.put, List.setIfInBounds_toArray, List.set_cons_zero, List.set_cons_succ]
              refine wpAnyH_take (i := 5) (oi := { dst := some 22, op := _, type := _, pos := _, after := _, guard := _ }) (v := ?_) rfl (by kernel_rfl) (by kernel_rfl) (by kernel_rfl) (fun _ _ _ h => h) (Or.inl ⟨by rfl, ?_⟩) hHeld ?_
              rotate_left
              · (intro w hSw; obtain ⟨g0, g1, g2⟩ := HK1.out _ hSw; obtain ⟨h0, h1, h2⟩ := HK0.out _ hSw; go_simp <;> with_reducible rfl)
              try simp only [Act.put, List.setIfInBounds_toArray, List.set_cons_zero, List.set_cons_succ]
              refine wpAnyH_take (i := 6) (oi := { dst := some 23, op := _, type := _, pos := _, after := _, guard := _ }) (v := ?_) rfl (by kernel_rfl) (by kernel_rfl) (by kernel_rfl) (fun _ _ _ h => h) (Or.inl ⟨by rfl, ?_⟩) hHeld ?_
              rotate_left
              · (intro w hSw; obtain ⟨g0, g1, g2⟩ := HK1.out _ hSw; obtain ⟨h0, h1, h2⟩ := HK0.out _ hSw; go_simp <;> with_reducible rfl)
              try simp only [Act.put, List.setIfInBounds_toArray, List.set_cons_zero, List.set_cons_succ]
              refine wpAnyH_take (i := 7) (oi := { dst := some 24, op := _, type := _, pos := _, after := _, guard := _ }) (v := ?_) rfl (by kernel_rfl) (by kernel_rfl) (by kernel_rfl) (fun _ _ _ h => h) (Or.inl ⟨by rfl, ?_⟩) hHeld ?_
              rotate_left
              · (intro w hSw; obtain ⟨g0, g1, g2⟩ := HK1.out _ hSw; obtain ⟨h0, h1, h2⟩ := HK0.out _ hSw; go_simp <;> with_reducible rfl)
              try simp only [Act.put, List.setIfInBounds_toArray, List.set_cons_zero, List.set_cons_succ]
              refine wpAnyH_take (i := 8) (oi := { dst := some 25, op := _, type := _, pos := _, after := _, guard := _ }) (v := ?_) rfl (by kernel_rfl) (by kernel_rfl) (by kernel_rfl) (fun _ _ _ h => h) (Or.inl ⟨by rfl, ?_⟩) hHeld ?_
              rotate_left
              · (intro w hSw; obtain ⟨g0, g1, g2⟩ := HK1.out _ hSw; obtain ⟨h0, h1, h2⟩ := HK0.out _ hSw; go_simp <;> with_reducible rfl)
              try simp only [Act.put, List.setIfInBounds_toArray, List.set_cons_zero, List.set_cons_succ]
              refine wpAnyH_done (by kernel_rfl) ?_ _
              have hB2 := hB.trans (hHeld.mono hsz)
              go_wp2_with fail
              go_ret
              exact ⟨retB HN.out.symm, hB2⟩
          · have HN : Hid (decide (l = m) = false) := Lib.hid (by have := HX.out; rw [if_neg (by simp [d1])] at this; exact this)
            clear HX
            go_wp2_with fail
            refine wp_region_held_drew (S := (fun V => Below wr.heap.size wr V)) (by kernel_rfl) (by exact (Below.refl _ _).drew) (fun hHeld => ?_)
            refine wpAnyH_take (i := 0) (oi := { dst := some 17, op := _, type := _, pos := _, after := _, guard := _ }) (v := ?_) rfl (by kernel_rfl) (by kernel_rfl) (by kernel_rfl) (fun _ _ _ h => h) (Or.inl ⟨by rfl, ?_⟩) hHeld ?_
            rotate_left
            · (intro w hSw; obtain ⟨g0, g1, g2⟩ := HK1.out _ hSw; obtain ⟨h0, h1, h2⟩ := HK0.out _ hSw; go_simp <;> with_reducible rfl)
            try simp only [Act.put, List.setIfInBounds_toArray, List.set_cons_zero, List.set_cons_succ]
            refine wpAnyH_take (i := 1) (oi := { dst := some 18, op := _, type := _, pos := _, after := _, guard := _ }) (v := ?_) rfl (by kernel_rfl) (by kernel_rfl) (by kernel_rfl) (fun _ _ _ h => h) (Or.inl ⟨by rfl, ?_⟩) hHeld ?_
            rotate_left
            · (intro w hSw; obtain ⟨g0, g1, g2⟩ := HK1.out _ hSw; obtain ⟨h0, h1, h2⟩ := HK0.out _ hSw; go_simp <;> with_reducible rfl)
            try simp only [Act.put, List.setIfInBounds_toArray, List.set_cons_zero, List.set_cons_succ]
            refine wpAnyH_take (i := 2) (oi := { dst := some 19, op := _, type := _, pos := _, after := _, guard := _ }) (v := ?_) rfl (by kernel_rfl) (by kernel_rfl) (by kernel_rfl) (fun _ _ _ h => h) (Or.inl ⟨by rfl, ?_⟩) hHeld ?_
            rotate_left
            · (intro w hSw; obtain ⟨g0, g1, g2⟩ := HK1.out _ hSw; obtain ⟨h0, h1, h2⟩ := HK0.out _ hSw; go_simp <;> with_reducible rfl)
            try simp only [Act.put, List.setIfInBounds_toArray, List.set_cons_zero, List.set_cons_succ]
            refine wpAnyH_take (i := 3) (oi := { dst := some 20, op := _, type := _, pos := _, after := _, guard := _ }) (v := ?_) rfl (by kernel_rfl) (by kernel_rfl) (by kernel_rfl) (fun _ _ _ h => h) (Or.inl ⟨by rfl, ?_⟩) hHeld ?_
            rotate_left
            · (intro w hSw; obtain ⟨g0, g1, g2⟩ := HK1.out _ hSw; obtain ⟨h0, h1, h2⟩ := HK0.out _ hSw; go_simp <;> with_reducible rfl)
            try simp only [Act.put, List.setIfInBounds_toArray, List.set_cons_zero, List.set_cons_succ]
            refine wpAnyH_take (i := 4) (oi := { dst := some 21, op := _, type := _, pos := _, after := _, guard := _ }) (v := ?_) rfl (by kernel_rfl) (by kernel_rfl) (by kernel_rfl) (fun _ _ _ h => h) (Or.inl ⟨by rfl, ?_⟩) hHeld ?_
            rotate_left
            · (intro w hSw; obtain ⟨g0, g1, g2⟩ := HK1.out _ hSw; obtain ⟨h0, h1, h2⟩ := HK0.out _ hSw; go_simp <;> with_reducible rfl)
            try simp only [Act.put, List.setIfInBounds_toArray, List.set_cons_zero, List.set_cons_succ]
            refine wpAnyH_take (i := 5) (oi := { dst := some 22, op := _, type := _, pos := _, after := _, guard := _ }) (v := ?_) rfl (by kernel_rfl) (by kernel_rfl) (by kernel_rfl) (fun _ _ _ h => h) (Or.inl ⟨by rfl, ?_⟩) hHeld ?_
            rotate_left
            · (intro w hSw; obtain ⟨g0, g1, g2⟩ := HK1.out _ hSw; obtain ⟨h0, h1, h2⟩ := HK0.out _ hSw; go_simp <;> with_reducible rfl)
            try simp only [Act.put, List.setIfInBounds_toArray, List.set_cons_zero, List.set_cons_succ]
            refine wpAnyH_take (i := 6) (oi := { dst := some 23, op := _, type := _, pos := _, after := _, guard := _ }) (v := ?_) rfl (by kernel_rfl) (by kernel_rfl) (by kernel_rfl) (fun _ _ _ h => h) (Or.inl ⟨by rfl, ?_⟩) hHeld ?_
            rotate_left
            · (intro w hSw; obtain ⟨g0, g1, g2⟩ := HK1.out _ hSw; obtain ⟨h0, h1, h2⟩ := HK0.out _ hSw; go_simp <;> with_reducible rfl)
            try simp only [Act.put, List.setIfInBounds_toArray, List.set_cons_zero, List.set_cons_succ]
            refine wpAnyH_take (i := 7) (oi := { dst := some 24, op := _, type := _, pos := _, after := _, guard := _ }) (v := ?_) rfl (by kernel_rfl) (by kernel_rfl) (by kernel_rfl) (fun _ _ _ h => h) (Or.inl ⟨by rfl, ?_⟩) hHeld ?_
            rotate_left
            · (intro w hSw; obtain ⟨g0, g1, g2⟩ := HK1.out _ hSw; obtain ⟨h0, h1, h2⟩ := HK0.out _ hSw; go_simp <;> with_reducible rfl)
            try simp only [Act.put, List.setIfInBounds_toArray, List.set_cons_zero, List.set_cons_succ]
            refine wpAnyH_take (i := 8) (oi := { dst := some 25, op := _, type := _, pos := _, after := _, guard := _ }) (v := ?_) rfl (by kernel_rfl) (by kernel_rfl) (by kernel_rfl) (fun _ _ _ h => h) (Or.inl ⟨by rfl, ?_⟩) hHeld ?_
            rotate_left
            · (intro w hSw; obtain ⟨g0, g1, g2⟩ := HK1.out _ hSw; obtain ⟨h0, h1, h2⟩ := HK0.out _ hSw; go_simp <;> with_reducible rfl)
            try simp only [Act.put, List.setIfInBounds_toArray, List.set_cons_zero, List.set_cons_succ]
            refine wpAnyH_done (by kernel_rfl) ?_ _
            have hB2 := hB.trans (hHeld.mono hsz)
            go_wp2_with fail
            go_ret
            exact ⟨retB HN.out.symm, hB2⟩
        · have HN : Hid (decide (l = m) = false) := Lib.hid (by have := HX.out; rw [if_neg (by simp [d0])] at this; exact this)
          clear HX
          go_wp2_with fail
          refine wp_region_held_drew (S := (fun V => Below wr.heap.size wr V)) (by kernel_rfl) (by exact (Below.refl _ _).drew) (fun hHeld => ?_)
          refine wpAnyH_take (i := 0) (oi := { dst := some 17, op := _, type := _, pos := _, after := _, guard := _ }) (v := ?_) rfl (by kernel_rfl) (by kernel_rfl) (by kernel_rfl) (fun _ _ _ h => h) (Or.inl ⟨by rfl, ?_⟩) hHeld ?_
          rotate_left
          · (intro w hSw; obtain ⟨g0, g1, g2⟩ := HK1.out _ hSw; obtain ⟨h0, h1, h2⟩ := HK0.out _ hSw; go_simp <;> with_reducible rfl)
          try simp only [Act.put, List.setIfInBounds_toArray, List.set_cons_zero, List.set_cons_succ]
          refine wpAnyH_take (i := 1) (oi := { dst := some 18, op := _, type := _, pos := _, after := _, guard := _ }) (v := ?_) rfl (by kernel_rfl) (by kernel_rfl) (by kernel_rfl) (fun _ _ _ h => h) (Or.inl ⟨by rfl, ?_⟩) hHeld ?_
          rotate_left
          · (intro w hSw; obtain ⟨g0, g1, g2⟩ := HK1.out _ hSw; obtain ⟨h0, h1, h2⟩ := HK0.out _ hSw; go_simp <;> with_reducible rfl)
          try simp only [Act.put, List.setIfInBounds_toArray, List.set_cons_zero, List.set_cons_succ]
          refine wpAnyH_take (i := 2) (oi := { dst := some 19, op := _, type := _, pos := _, after := _, guard := _ }) (v := ?_) rfl (by kernel_rfl) (by kernel_rfl) (by kernel_rfl) (fun _ _ _ h => h) (Or.inl ⟨by rfl, ?_⟩) hHeld ?_
          rotate_left
          · (intro w hSw; obtain ⟨g0, g1, g2⟩ := HK1.out _ hSw; obtain ⟨h0, h1, h2⟩ := HK0.out _ hSw; go_simp <;> with_reducible rfl)
          try simp only [Act.put, List.setIfInBounds_toArray, List.set_cons_zero, List.set_cons_succ]
          refine wpAnyH_take (i := 3) (oi := { dst := some 20, op := _, type := _, pos := _, after := _, guard := _ }) (v := ?_) rfl (by kernel_rfl) (by kernel_rfl) (by kernel_rfl) (fun _ _ _ h => h) (Or.inl ⟨by rfl, ?_⟩) hHeld ?_
          rotate_left
          · (intro w hSw; obtain ⟨g0, g1, g2⟩ := HK1.out _ hSw; obtain ⟨h0, h1, h2⟩ := HK0.out _ hSw; go_simp <;> with_reducible rfl)
          try simp only [Act.put, List.setIfInBounds_toArray, List.set_cons_zero, List.set_cons_succ]
          refine wpAnyH_take (i := 4) (oi := { dst := some 21, op := _, type := _, pos := _, after := _, guard := _ }) (v := ?_) rfl (by kernel_rfl) (by kernel_rfl) (by kernel_rfl) (fun _ _ _ h => h) (Or.inl ⟨by rfl, ?_⟩) hHeld ?_
          rotate_left
          · (intro w hSw; obtain ⟨g0, g1, g2⟩ := HK1.out _ hSw; obtain ⟨h0, h1, h2⟩ := HK0.out _ hSw; go_simp <;> with_reducible rfl)
          try simp only [Act.put, List.setIfInBounds_toArray, List.set_cons_zero, List.set_cons_succ]
          refine wpAnyH_take (i := 5) (oi := { dst := some 22, op := _, type := _, pos := _, after := _, guard := _ }) (v := ?_) rfl (by kernel_rfl) (by kernel_rfl) (by kernel_rfl) (fun _ _ _ h => h) (Or.inl ⟨by rfl, ?_⟩) hHeld ?_
          rotate_left
          · (intro w hSw; obtain ⟨g0, g1, g2⟩ := HK1.out _ hSw; obtain ⟨h0, h1, h2⟩ := HK0.out _ hSw; go_simp <;> with_reducible rfl)
          try simp only [Act.put, List.setIfInBounds_toArray, List.set_cons_zero, List.set_cons_succ]
          refine wpAnyH_take (i := 6) (oi := { dst := some 23, op := _, type := _, pos := _, after := _, guard := _ }) (v := ?_) rfl (by kernel_rfl) (by kernel_rfl) (by kernel_rfl) (fun _ _ _ h => h) (Or.inl ⟨by rfl, ?_⟩) hHeld ?_
          rotate_left
          · (intro w hSw; obtain ⟨g0, g1, g2⟩ := HK1.out _ hSw; obtain ⟨h0, h1, h2⟩ := HK0.out _ hSw; go_simp <;> with_reducible rfl)
          try simp only [Act.put, List.setIfInBounds_toArray, List.set_cons_zero, List.set_cons_succ]
          refine wpAnyH_take (i := 7) (oi := { dst := some 24, op := _, type := _, pos := _, after := _, guard := _ }) (v := ?_) rfl (by kernel_rfl) (by kernel_rfl) (by kernel_rfl) (fun _ _ _ h => h) (Or.inl ⟨by rfl, ?_⟩) hHeld ?_
          rotate_left
          · (intro w hSw; obtain ⟨g0, g1, g2⟩ := HK1.out _ hSw; obtain ⟨h0, h1, h2⟩ := HK0.out _ hSw; go_simp <;> with_reducible rfl)
          try simp only [Act.put, List.setIfInBounds_toArray, List.set_cons_zero, List.set_cons_succ]
          refine wpAnyH_take (i := 8) (oi := { dst := some 25, op := _, type := _, pos := _, after := _, guard := _ }) (v := ?_) rfl (by kernel_rfl) (by kernel_rfl) (by kernel_rfl) (fun _ _ _ h => h) (Or.inl ⟨by rfl, ?_⟩) hHeld ?_
          rotate_left
          · (intro w hSw; obtain ⟨g0, g1, g2⟩ := HK1.out _ hSw; obtain ⟨h0, h1, h2⟩ := HK0.out _ hSw; go_simp <;> with_reducible rfl)
          try simp only [Act.put, List.setIfInBounds_toArray, List.set_cons_zero, List.set_cons_succ]
          refine wpAnyH_done (by kernel_rfl) ?_ _
          have hB2 := hB.trans (hHeld.mono hsz)
          go_wp2_with fail
          go_ret
          exact ⟨retB HN.out.symm, hB2⟩
      · have HE := Lib.hid (show decide (l = m) = true from decide_eq_true (list_eq_ofL HLM.out fun j h1 h2 => hno j h1 h2 (by omega)))
        clear hno
        go_wp2_with fail
        go_ret
        exact ⟨retB HE.out.symm, hB⟩
  · have HE := Lib.hid (show decide (l = m) = false from decide_eq_false fun e => hlen (by rw [e]))
    have hlen2 : ¬ ((l.length : Int) = (m.length : Int)) := by omega
    have hlen3 : ((l.length : Int) != (m.length : Int)) = true := by simpa using hlen2
    clear hlen
    go_enter Try.func61, Try.ntmps61
    go_wp2_with fail
    go_ret
    exact ⟨retB HE.out.symm, Below.refl _ _⟩
theorem rlsame_any_self (A A2 : Option Addr) (cap cap2 : Nat) (l : List Lt) (w : World) (hl : l.length ≤ 1000000) (hs : Sl w A (rc Lt.cells l)) (hs2 : Sl w A2 (rc Lt.cells l)) :
    Calls Try.prog 61 #[.slice A l.length cap, .slice A2 l.length cap2] w fun e w' => e = .returned (.bool true) ∧ Below w.heap.size w w' :=
  (rlsame_any A A2 cap cap2 l l w hl hs hs2).mono fun _ _ ⟨he, hw⟩ => ⟨by rw [he, decide_eq_true rfl], hw⟩
end Go.Proofs.Ytldnponbkhgijaa
end
section
namespace Go.Proofs.Ytldnponbkhgijaa
open Go.ChangeShapes Go.WideShapes Go.ChangeAt Go.RowKit
set_option linter.unusedVariables false
set_option linter.unusedSimpArgs false

section
variable {P : Program} {w : World}
end
def Apart (v u : Value) : Prop := ∀ g, v.ownBlock = some g → u.ownBlock ≠ some g
theorem Apart.symm {v u : Value} (h : Apart v u) : Apart u v := fun g h1 h2 => h g h2 h1
theorem Apart.none (u : Value) : Apart (.slice none 0 0) u := fun g h => by simp [Value.ownBlock] at h
end Go.Proofs.Ytldnponbkhgijaa
end
section
namespace Go.Proofs.Ytldnponbkhgijaa
open Go.ChangeShapes Go.WideShapes Go.ChangeAt Go.RowKit
set_option linter.unusedVariables false
set_option linter.unusedSimpArgs false

theorem Lt.Bx.far {w : World} {b : Nat} {g : Lt} (h : Lt.Bx w b g) {p : Addr} (hp : p.block ≠ b) (v : Value) : Lt.Bx (w.setCell p v) b g := by
  obtain ⟨h0, h1, h2⟩ := h
  refine ⟨by simpa using h0, ?_, ?_⟩
  · exact Lt.at_keep h1 fun i => by rw [cell_set, if_neg (fun e => hp (by rw [e]))]
  · rw [Below.heap_setCell _ _ _ _ (fun e => hp e.symm)]; exact h2
theorem Lt.Bx.grown {w w' : World} {b base n : Nat} {g : Lt} {v : Value} {xs : List Value} (h : Lt.Bx w b g) (o : Obj) (hv : w.ownsRow base 93 3 v n xs) (hg : (w.alloc o).grownBy w' v.ownBlock) (hne : v.ownBlock ≠ some b) : Lt.Bx w' b g := by
  have h1 := h.below ((Below.refl _ _).alloc (Nat.le_refl _) o)
  have hk := hg.block b h1.lt (fun e => hne e.symm)
  exact ⟨Nat.lt_of_lt_of_le h1.lt hg.size, Lt.at_keep h1.at_ fun i => World.cell?_of_block (a := ⟨b, i, none⟩) hk, hk.trans h1.hp⟩
end Go.Proofs.Ytldnponbkhgijaa
end
section
namespace Go.Proofs.Ytldnponbkhgijaa
open Go.ChangeShapes Go.WideShapes Go.ChangeAt Go.RowKit
set_option linter.unusedVariables false
set_option linter.unusedSimpArgs false

def totL : List Lt → Int → Int → Int
  | [], _, _ => 0
  | x :: r, a, t => (if sameL a t x = true then x.qty else 0) + totL r a t
theorem totL_none {l : List Lt} {a t : Int} (h : ∀ y ∈ l, sameL a t y = false) : totL l a t = 0 := by
  induction l with
  | nil => rfl
  | cons x r ih => rw [totL, h x (by simp), ih (fun y hy => h y (by simp [hy]))]; simp
theorem totL_nn {l : List Lt} (h : ∀ y ∈ l, 0 < y.qty) (a t : Int) : 0 ≤ totL l a t := by
  induction l with
  | nil => exact Int.le_refl 0
  | cons x r ih =>
    have h1 := h x (by simp)
    have h2 := ih (fun y hy => h y (by simp [hy]))
    rw [totL]; split <;> omega
theorem totL_has {l : List Lt} (h : ∀ y ∈ l, 0 < y.qty) {a t : Int} (hp : 0 < totL l a t) : ∃ y ∈ l, sameL a t y = true := by
  by_cases hc : ∃ y ∈ l, sameL a t y = true
  · exact hc
  · rw [totL_none (fun y hy => by cases hs : sameL a t y with
      | false => rfl
      | true => exact absurd ⟨y, hy, hs⟩ hc)] at hp
    omega
theorem same_after {x y : Lt} (h : ahL x y = true) : sameL x.ast x.tag y = false := by
  rw [ahL_iff] at h
  cases hs : sameL x.ast x.tag y with
  | false => rfl
  | true => rw [sameL_iff] at hs; unfold ltL at h; omega
theorem same_swap {x y : Lt} : sameL x.ast x.tag y = sameL y.ast y.tag x := by
  cases h1 : sameL x.ast x.tag y <;> cases h2 : sameL y.ast y.tag x <;> try rfl
  · rw [sameL_iff] at h2
    have : sameL x.ast x.tag y = true := by rw [sameL_iff]; omega
    rw [h1] at this; cases this
  · rw [sameL_iff] at h1
    have : sameL y.ast y.tag x = true := by rw [sameL_iff]; omega
    rw [h2] at this; cases this
abbrev SoL (l : List Lt) : Prop := l.Pairwise (fun a b => ahL a b = true)
theorem so_none {x : Lt} {r : List Lt} (h : SoL (x :: r)) : ∀ y ∈ r, sameL x.ast x.tag y = false := fun y hy => same_after (List.rel_of_pairwise_cons h hy)
theorem getL_cons (x : Lt) (r : List Lt) (a t : Int) : getL (x :: r) a t = if sameL a t x = true then x.qty else getL r a t := by
  unfold getL pickL
  rw [List.find?_cons]
  cases sameL a t x <;> simp
theorem getL_nil (a t : Int) : getL [] a t = 0 := rfl
theorem key_of {a t : Int} {x : Lt} (h : sameL a t x = true) : x.ast = a ∧ x.tag = t := by rw [sameL_iff] at h; exact h
theorem getL_tot {l : List Lt} (h : SoL l) (a t : Int) : getL l a t = totL l a t := by
  induction l with
  | nil => rfl
  | cons x r ih =>
    rw [getL_cons, totL, ih h.of_cons]
    split
    · rename_i hs
      obtain ⟨rfl, rfl⟩ := key_of hs
      rw [totL_none (so_none h)]; omega
    · omega
theorem isLs_iff (l : List Lt) : isLs l = true ↔ (∀ x ∈ l, okL x = true) ∧ l.length ≤ 16 ∧ SoL l := by
  unfold isLs
  rw [Bool.and_eq_true, Bool.and_eq_true, List.all_eq_true, decide_eq_true_eq, rising_pairwise ordL]
  exact ⟨fun h => ⟨h.1.1, h.1.2, h.2⟩, fun h => ⟨⟨h.1, h.2.1⟩, h.2.2⟩⟩
theorem isLs_pos {l : List Lt} (h : isLs l = true) : ∀ y ∈ l, 0 < y.qty := fun y hy => okL_pos (((isLs_iff l).1 h).1 y hy)
theorem totL_put {l : List Lt} (h : SoL l) (x : Lt) (a t : Int) : totL (putR ahL l x) a t = if sameL a t x = true then x.qty else totL l a t := by
  induction l with
  | nil => simp only [putR, totL]; split <;> omega
  | cons y r ih =>
    unfold putR
    cases h1 : ahL y x with
    | true =>
      rw [if_pos rfl, totL, ih h.of_cons, totL]
      by_cases hs : sameL a t x = true
      · rw [if_pos hs, if_pos hs]
        obtain ⟨rfl, rfl⟩ := key_of hs
        have := same_after h1
        rw [same_swap] at this
        rw [this]; simp
      · rw [if_neg hs, if_neg hs]
    | false =>
      rw [if_neg (by simp)]
      cases h2 : ahL x y with
      | true =>
        rw [if_pos rfl, totL]
        by_cases hs : sameL a t x = true
        · rw [if_pos hs, if_pos hs]
          obtain ⟨rfl, rfl⟩ := key_of hs
          rw [totL_none fun z hz => by
            rcases List.mem_cons.1 hz with rfl | hz
            · exact same_after h2
            · exact same_after (ordL.tr _ _ _ h2 (List.rel_of_pairwise_cons h hz))]
          omega
        · rw [if_neg hs, if_neg hs]; omega
      | false =>
        rw [if_neg (by simp), totL]
        have hk := key_of (sameL_of h1 h2)
        by_cases hs : sameL a t x = true
        · rw [if_pos hs, if_pos hs]
          obtain ⟨rfl, rfl⟩ := key_of hs
          have := totL_none (so_none h)
          rw [hk.1, hk.2] at this
          omega
        · rw [if_neg hs, if_neg hs, totL, if_neg (fun e => hs (by rw [sameL_iff] at e ⊢; omega))]
theorem len_put_has {l : List Lt} (h : SoL l) (x : Lt) (hh : ∃ y ∈ l, sameL x.ast x.tag y = true) : (putR ahL l x).length = l.length := by
  induction l with
  | nil => obtain ⟨y, hy, _⟩ := hh; simp at hy
  | cons y r ih =>
    unfold putR
    cases h1 : ahL y x with
    | true =>
      rw [if_pos rfl, List.length_cons, List.length_cons, ih h.of_cons]
      obtain ⟨z, hz, hs⟩ := hh
      rcases List.mem_cons.1 hz with rfl | hz
      · have := same_after h1; rw [same_swap, hs] at this; cases this
      · exact ⟨z, hz, hs⟩
    | false =>
      rw [if_neg (by simp)]
      cases h2 : ahL x y with
      | true =>
        obtain ⟨z, hz, hs⟩ := hh
        rcases List.mem_cons.1 hz with rfl | hz
        · have := same_after h2; rw [hs] at this; cases this
        · have := same_after (ordL.tr _ _ _ h2 (List.rel_of_pairwise_cons h hz)); rw [hs] at this; cases this
      | false => rw [if_neg (by simp)]; simp
abbrev qsum (l : List Lt) (i : Int) : Int := (qsL l i).sum
theorem qsum_cons (x : Lt) (r : List Lt) (i : Int) : qsum (x :: r) i = (if x.ast = i then x.qty else 0) + qsum r i := by
  unfold qsum qsL
  rw [List.filter_cons]
  by_cases h : x.ast = i
  · rw [if_pos (by simpa using h), if_pos h]; simp
  · rw [if_neg (by simpa using h), if_neg h]; simp
theorem qsum_put {l : List Lt} (h : SoL l) (a t q : Int) (i : Int) : qsum (putR ahL l ⟨a, t, getL l a t + q⟩) i = qsum l i + if a = i then q else 0 := by
  induction l with
  | nil => rw [putR, getL_nil, qsum_cons]; simp [qsum, qsL]
  | cons y r ih =>
    have ih := ih h.of_cons
    unfold putR
    rw [getL_cons]
    cases h1 : ahL y ⟨a, t, (if sameL a t y = true then y.qty else getL r a t) + q⟩ with
    | true =>
      have hn : sameL a t y = false := by
        have := same_after h1
        rw [same_swap] at this
        exact this
      simp only [hn, Bool.false_eq_true, if_false]
      rw [if_pos trivial, qsum_cons, qsum_cons, ih]; omega
    | false =>
      rw [if_neg (by simp)]
      cases h2 : ahL ⟨a, t, (if sameL a t y = true then y.qty else getL r a t) + q⟩ y with
      | true =>
        have hn : sameL a t y = false := same_after h2
        have hz : getL r a t = 0 := by
          rw [getL_tot h.of_cons, totL_none]
          exact fun z hz => same_after (x := ⟨a, t, _⟩) (ordL.tr _ _ _ h2 (List.rel_of_pairwise_cons h hz))
        simp only [hn, Bool.false_eq_true, if_false]
        rw [if_pos trivial, qsum_cons, hz]
        simp only
        split <;> omega
      | false =>
        have hs : sameL a t y = true := sameL_of h1 h2
        rw [if_neg (by simp), qsum_cons, qsum_cons, if_pos hs, (key_of hs).1]
        simp only
        split <;> omega
theorem put_ok {m m' : List Lt} {x : Lt} (h : putLR m x = (0, m')) : isLs m = true ∧ okL x = true ∧ In64 (getL m x.ast x.tag + x.qty) ∧ ¬ (getL m x.ast x.tag = 0 ∧ m.length = 16) ∧ m' = putR ahL m ⟨x.ast, x.tag, getL m x.ast x.tag + x.qty⟩ := by
  unfold putLR at h
  split at h
  · rename_i hc; injection h with h1; exact absurd h1 hc
  · rename_i hc
    have hc : chkL m x = 0 := by simpa using hc
    split at h
    · injection h with h1; cases h1
    · rename_i h64
      split at h
      · injection h with h1; cases h1
      · rename_i hl
        injection h with h1 h2
        exact ⟨(chkL_ok hc).1, (chkL_ok hc).2, by simpa using h64, hl, h2.symm⟩
theorem put_can {m : List Lt} {x : Lt} (h1 : isLs m = true) (h2 : okL x = true) (h3 : In64 (getL m x.ast x.tag + x.qty)) (h4 : ¬ (getL m x.ast x.tag = 0 ∧ m.length = 16)) : putLR m x = (0, putR ahL m ⟨x.ast, x.tag, getL m x.ast x.tag + x.qty⟩) := by
  have hc : chkL m x = 0 := by unfold chkL; rw [if_neg (by rw [h1]; simp), if_neg (by rw [h2]; simp)]
  unfold putLR
  rw [if_neg (by rw [hc]; simp), if_neg (by simpa using h3), if_neg h4]
theorem get_has {m : List Lt} (h : isLs m = true) {a t : Int} (hg : getL m a t ≠ 0) : ∃ y ∈ m, sameL a t y = true := by
  obtain ⟨h1, h2, h3⟩ := (isLs_iff m).1 h
  rw [getL_tot h3] at hg
  exact totL_has (isLs_pos h) (by have := totL_nn (isLs_pos h) a t; omega)
theorem okL_qty {x : Lt} (h : okL x = true) {q : Int} (hq : 0 < q) : okL ⟨x.ast, x.tag, q⟩ = true := by
  unfold okL at h ⊢
  simp only [Bool.and_eq_true, decide_eq_true_eq] at h ⊢
  exact ⟨h.1, hq⟩
theorem put_is {m m' : List Lt} {x : Lt} (h : putLR m x = (0, m')) : isLs m' = true ∧ (∀ a t, totL m' a t = totL m a t + if sameL a t x = true then x.qty else 0) ∧ (∀ i, qsum m' i = qsum m i + if x.ast = i then x.qty else 0) ∧ ((∀ y ∈ m, In64 y.qty) → ∀ y ∈ m', In64 y.qty) := by
  obtain ⟨h1, h2, h3, h4, rfl⟩ := put_ok h
  obtain ⟨m1, m2, m3⟩ := (isLs_iff m).1 h1
  have hp := okL_pos h2
  have hg := getL_nn h1 x.ast x.tag
  refine ⟨(isLs_iff _).2 ⟨fun y hy => ?_, ?_, pairwise_putR ordL _ _ m3⟩, fun a t => ?_, fun i => qsum_put m3 _ _ _ _, fun h6 y hy => ?_⟩
  · rcases mem_putR _ _ _ hy with rfl | hy
    · exact okL_qty h2 (by omega)
    · exact m1 y hy
  · by_cases hz : getL m x.ast x.tag = 0
    · have := length_putR (ah := ahL) ⟨x.ast, x.tag, getL m x.ast x.tag + x.qty⟩ m
      omega
    · rw [len_put_has m3 ⟨x.ast, x.tag, getL m x.ast x.tag + x.qty⟩ (get_has h1 hz)]; exact m2
  · rw [totL_put m3]
    have e : sameL a t ⟨x.ast, x.tag, getL m x.ast x.tag + x.qty⟩ = sameL a t x := rfl
    rw [e]
    split
    · rename_i hs
      obtain ⟨rfl, rfl⟩ := key_of hs
      rw [getL_tot m3]
    · omega
  · rcases mem_putR _ _ _ hy with rfl | hy
    · exact h3
    · exact h6 y hy
end Go.Proofs.Ytldnponbkhgijaa
end
section
namespace Go.Proofs.Ytldnponbkhgijaa
open Go.ChangeShapes Go.WideShapes Go.ChangeAt Go.RowKit
set_option linter.unusedVariables false
set_option linter.unusedSimpArgs false

def ahH (x y : Hc) : Bool := keyLt x.ac x.cl y.ac y.cl
theorem ordH : Ord ahH := ord_key Hc.ac Hc.cl
theorem ahH_iff (x y : Hc) : ahH x y = true ↔ x.ac < y.ac ∨ x.ac = y.ac ∧ x.cl < y.cl := keyLt_iff _ _ _ _
def ahHd (x y : Hd) : Bool := keyLt x.ac x.cl y.ac y.cl
def unH (a c : Int) (x : Hc) : Bool := x.ac == a && x.cl == c
def unHd (a c : Int) (x : Hd) : Bool := x.ac == a && x.cl == c
theorem unH_iff (a c : Int) (x : Hc) : unH a c x = true ↔ x.ac = a ∧ x.cl = c := by simp [unH]
theorem unH_no (a c : Int) (x : Hc) : unH a c x = false ↔ ¬ (x.ac = a ∧ x.cl = c) := by rw [← unH_iff]; simp
theorem ah_is {w : World} (g : Hd) (c : Hc) (g' : Hd) (c' : Hc) (h : HdIs w g c) (h' : HdIs w g' c') : ahHd g g' = ahH c c' := by
  unfold ahHd ahH; rw [h.ac, h.cl, h'.ac, h'.cl]
theorem un_is {w : World} (a k : Int) (g : Hd) (c : Hc) (h : HdIs w g c) : unHd a k g = unH a k c := by
  unfold unHd unH; rw [h.ac, h.cl]
def okH (x : Hc) : Bool := !(x.L.length == 0) && isLs x.L
def isH (cs : List Hc) : Bool := cs.all okH && risingL ahH cs
def lotsH (cs : List Hc) (a c : Int) : List Lt := ((cs.find? (unH a c)).map Hc.L).getD []
def sumsH (cs : List Hc) (t : Int) : List Int := cs.map fun g => (qsL g.L t).sum
def withH (cs : List Hc) (a c : Int) (L : List Lt) : List Hc := if L = [] then cs.filter (fun g => !unH a c g) else putR ahH cs ⟨a, c, L⟩
def setHR (cs : List Hc) (a c : Int) (L : List Lt) : Int × List Hc := if isH cs = false ∨ isLs L = false then (3, []) else (0, withH cs a c L)
def chgHR (how : List Lt → Int × List Lt) (cs : List Hc) (a c : Int) : Int × List Hc :=
  if isH cs = false then (3, []) else if (how (lotsH cs a c)).1 ≠ 0 then ((how (lotsH cs a c)).1, []) else (0, withH cs a c (how (lotsH cs a c)).2)
def moveHR (cs : List Hc) (fa fc ta tc : Int) : Int × List Hc :=
  if isH cs = false then (3, []) else if fa = ta ∧ fc = tc then (24, []) else if lotsH cs ta tc ≠ [] then (21, [])
  else (0, withH (withH cs fa fc []) ta tc (lotsH cs fa fc))
noncomputable def passHR (cs : List Hc) (fa fc ta tc : Int) (x : Lt) (tag : Int) : Int × List Hc :=
  if isH cs = false then (3, []) else if fa = ta ∧ fc = tc then (24, []) else
  if (chgHR (fun l => takeLR l x) cs fa fc).1 ≠ 0 then ((chgHR (fun l => takeLR l x) cs fa fc).1, [])
  else chgHR (fun l => putLR l ⟨x.ast, tag, x.qty⟩) (chgHR (fun l => takeLR l x) cs fa fc).2 ta tc
def CapH (A : Option Addr) (n cap : Nat) : Prop := (A = none ∧ n = 0 ∧ cap = 0) ∨ (∃ b, A = some ⟨b, 0, none⟩ ∧ n ≤ cap ∧ cap ≤ maxLen)
theorem CapH.of_own {w : World} {B e s n c : Nat} {A : Option Addr} {xs : List Value} (h : w.ownsRow B e s (.slice A n c) n xs) : CapH A n c := by
  rcases h.2 with ⟨hv, h0⟩ | ⟨g, cap, cur, hv, hg, hh, hnc, hcm, _⟩
  · injection hv with e1 e2 e3; exact .inl ⟨e1, h0, e3⟩
  · injection hv with e1 e2 e3; subst e3; exact .inr ⟨g, e1, hnc, hcm⟩
def HRow (w' : World) (e : Ending) (R : List Hc) : Prop :=
  ∃ (l : List Hd) (A' : Option Addr) (c' : Nat), e = .returned (.slice A' l.length c') ∧ Sl w' A' (rc Hd.cells l) ∧ HdTab w' l R ∧ CapH A' l.length c'
def HRes (w' : World) (e : Ending) (R : Int × List Hc) : Prop :=
  ∃ (l : List Hd) (A' : Option Addr) (c' : Nat), e = .returned (.tuple #[.slice A' l.length c', .int .i64 R.1]) ∧ Sl w' A' (rc Hd.cells l) ∧ HdTab w' l R.2 ∧ CapH A' l.length c'
theorem HRes.nil (w' : World) (n : Int) : HRes w' (.returned (.tuple #[.slice none 0 0, .int .i64 n])) (n, []) := ⟨[], none, 0, rfl, Sl.nil, HdTab.nil _, .inl ⟨rfl, rfl, rfl⟩⟩
abbrev SoH (cs : List Hc) : Prop := cs.Pairwise (fun a b => ahH a b = true)
theorem isH_iff (cs : List Hc) : isH cs = true ↔ (∀ x ∈ cs, okH x = true) ∧ SoH cs := by
  unfold isH
  rw [Bool.and_eq_true, List.all_eq_true, rising_pairwise ordH]
theorem isH_sorted {cs : List Hc} (h : isH cs = true) : SoH cs := ((isH_iff cs).1 h).2
theorem isH_bad {cs : List Hc} {k : Nat} (h : k < cs.length) (hb : okH cs[k] = false) : isH cs = false := by
  rw [← Bool.not_eq_true]
  intro hi
  have := ((isH_iff cs).1 hi).1 _ (List.getElem_mem h)
  rw [hb] at this; cases this
theorem isH_low {cs : List Hc} {j : Nat} (h : j + 1 < cs.length) (hb : ahH (cs[j]'(Nat.lt_of_succ_lt h)) cs[j + 1] = false) : isH cs = false := by
  rw [← Bool.not_eq_true]
  intro hi
  have := List.pairwise_iff_getElem.1 (isH_sorted hi) j (j + 1) (by omega) h (by omega)
  rw [this] at hb; cases hb
theorem isH_end {cs : List Hc} (h1 : ∀ j, (hj : j < cs.length) → okH cs[j] = true) : isH cs = risingL ahH cs := by
  have : cs.all okH = true := by
    rw [List.all_eq_true]
    intro x hx
    obtain ⟨j, hj, rfl⟩ := List.getElem_of_mem hx
    exact h1 j hj
  unfold isH
  rw [this, Bool.true_and]
theorem okH_iff (x : Hc) : okH x = true ↔ x.L ≠ [] ∧ isLs x.L = true := by
  unfold okH
  simp
theorem okH_zero {x : Hc} (h : x.L.length = 0) : okH x = false := by
  unfold okH; rw [h]; rfl
theorem okH_some {x : Hc} (h : x.L.length ≠ 0) : okH x = isLs x.L := by
  have : (x.L.length == 0) = false := by simpa using h
  unfold okH; rw [this]; rfl
theorem mem_putH {cs : List Hc} (h : SoH cs) (a c : Int) (L : List Lt) (y : Hc) : y ∈ putR ahH cs ⟨a, c, L⟩ ↔ y = ⟨a, c, L⟩ ∨ (y ∈ cs ∧ unH a c y = false) := by
  induction cs with
  | nil => simp [putR]
  | cons b r ih =>
    have ih := ih h.of_cons
    have hb : ∀ z ∈ r, ahH b z = true := (List.pairwise_cons.1 h).1
    unfold putR
    split
    · rename_i h1
      have hn : unH a c b = false := by rw [unH_no]; rw [ahH_iff] at h1; simp only at h1; omega
      rw [List.mem_cons, List.mem_cons, ih]
      constructor
      · rintro (rfl | h | h)
        · exact .inr ⟨.inl rfl, hn⟩
        · exact .inl h
        · exact .inr ⟨.inr h.1, h.2⟩
      · rintro (h | ⟨h | h, h2⟩)
        · exact .inr (.inl h)
        · exact .inl h
        · exact .inr (.inr ⟨h, h2⟩)
    · rename_i h1
      split
      · rename_i h2
        have hall : ∀ z ∈ b :: r, unH a c z = false := by
          intro z hz
          have hxz : ahH ⟨a, c, L⟩ z = true := by
            rcases List.mem_cons.1 hz with rfl | hz
            · exact h2
            · exact ordH.tr _ _ _ h2 (hb z hz)
          rw [unH_no]; rw [ahH_iff] at hxz; simp only at hxz; omega
        rw [List.mem_cons]
        exact ⟨fun h => h.imp id fun h => ⟨h, hall y h⟩, fun h => h.imp id fun h => h.1⟩
      · rename_i h2
        rw [ahH_iff] at h1 h2
        simp only at h1 h2
        have hbu : unH a c b = true := by rw [unH_iff]; omega
        have hr : ∀ z ∈ r, unH a c z = false := by
          intro z hz
          have := hb z hz
          rw [unH_no]; rw [unH_iff] at hbu; rw [ahH_iff] at this; omega
        rw [List.mem_cons, List.mem_cons]
        constructor
        · rintro (h | h)
          · exact .inl h
          · exact .inr ⟨.inr h, hr y h⟩
        · rintro (h | ⟨rfl | h, h3⟩)
          · exact .inl h
          · rw [hbu] at h3; cases h3
          · exact .inr h
theorem mem_with {cs : List Hc} (h : SoH cs) (a c : Int) (L : List Lt) (y : Hc) : y ∈ withH cs a c L ↔ (L ≠ [] ∧ y = ⟨a, c, L⟩) ∨ (y ∈ cs ∧ unH a c y = false) := by
  unfold withH
  split
  · rename_i hL
    rw [List.mem_filter]
    simp [hL]
  · rename_i hL
    rw [mem_putH h]
    simp [hL]
theorem with_sorted {cs : List Hc} (h : SoH cs) (a c : Int) (L : List Lt) : SoH (withH cs a c L) := by
  unfold withH
  split
  · exact h.filter _
  · exact pairwise_putR ordH _ _ h
theorem with_is {cs : List Hc} {L : List Lt} (h : isH cs = true) (hL : isLs L = true) (a c : Int) : isH (withH cs a c L) = true := by
  obtain ⟨h1, h2⟩ := (isH_iff cs).1 h
  refine (isH_iff _).2 ⟨fun x hx => ?_, with_sorted h2 a c L⟩
  rcases (mem_with h2 a c L x).1 hx with ⟨h3, rfl⟩ | ⟨h3, _⟩
  · exact (okH_iff _).2 ⟨h3, hL⟩
  · exact h1 x h3
theorem lots_cases (cs : List Hc) (a c : Int) : (lotsH cs a c = [] ∧ ∀ x ∈ cs, unH a c x = false) ∨ (∃ x ∈ cs, x.ac = a ∧ x.cl = c ∧ lotsH cs a c = x.L) := by
  unfold lotsH
  cases hf : cs.find? (unH a c) with
  | none => exact .inl ⟨rfl, fun x hx => by simpa using List.find?_eq_none.1 hf x hx⟩
  | some y =>
    obtain ⟨h1, h2⟩ := (unH_iff _ _ _).1 (List.find?_some hf)
    exact .inr ⟨y, List.mem_of_find?_eq_some hf, h1, h2, rfl⟩
theorem isLs_nil : isLs [] = true := rfl
theorem lots_is {cs : List Hc} (h : isH cs = true) (a c : Int) : isLs (lotsH cs a c) = true := by
  rcases lots_cases cs a c with ⟨e, _⟩ | ⟨x, hx, _, _, e⟩
  · rw [e]; exact isLs_nil
  · rw [e]; exact ((okH_iff x).1 (((isH_iff cs).1 h).1 x hx)).2
theorem lots_in6 {cs : List Hc} (h : ∀ g ∈ cs, ∀ y ∈ g.L, In64 y.qty) (a c : Int) : ∀ y ∈ lotsH cs a c, In64 y.qty := by
  rcases lots_cases cs a c with ⟨e, _⟩ | ⟨x, hx, _, _, e⟩
  · rw [e]; intro y hy; cases hy
  · rw [e]; exact h x hx
theorem lotsH_len {cs : List Hc} {n : Nat} (h : ∀ g ∈ cs, g.L.length ≤ n) (a c : Int) : (lotsH cs a c).length ≤ n := by
  rcases lots_cases cs a c with ⟨e, _⟩ | ⟨x, hx, _, _, e⟩
  · rw [e]; simp
  · rw [e]; exact h x hx
theorem with_in6 {cs : List Hc} {L : List Lt} (hs : SoH cs) (h : ∀ g ∈ cs, ∀ y ∈ g.L, In64 y.qty) (hL : ∀ y ∈ L, In64 y.qty) (a c : Int) : ∀ g ∈ withH cs a c L, ∀ y ∈ g.L, In64 y.qty := by
  intro g hg
  rcases (mem_with hs a c L g).1 hg with ⟨_, rfl⟩ | ⟨h3, _⟩
  · exact hL
  · exact h g h3
theorem with_len {cs : List Hc} (a c : Int) (L : List Lt) : (withH cs a c L).length ≤ cs.length + 1 := by
  unfold withH
  split
  · exact Nat.le_succ_of_le (List.length_filter_le _ _)
  · exact length_putR _ _
theorem with_swap {cs : List Hc} (h : SoH cs) {fa fc ta tc : Int} (hne : ¬ (fa = ta ∧ fc = tc)) (L : List Lt) : withH (withH cs ta tc L) fa fc [] = withH (withH cs fa fc []) ta tc L := by
  have s1 := with_sorted h ta tc L
  have s2 := with_sorted h fa fc []
  refine sorted_ext ordH _ _ (with_sorted s1 _ _ _) (with_sorted s2 _ _ _) fun x => ?_
  rw [mem_with s1, mem_with s2, mem_with h, mem_with h]
  have hk : x = ⟨ta, tc, L⟩ → unH fa fc x = false := by rintro rfl; rw [unH_no]; exact fun h => hne ⟨h.1.symm, h.2.symm⟩
  constructor
  · rintro (⟨h1, _⟩ | ⟨h1 | h1, h2⟩)
    · exact absurd rfl h1
    · exact .inl h1
    · exact .inr ⟨.inr ⟨h1.1, h2⟩, h1.2⟩
  · rintro (h1 | ⟨⟨h1, _⟩ | h1, h2⟩)
    · exact .inr ⟨.inl h1, hk h1.2⟩
    · exact absurd rfl h1
    · exact .inr ⟨.inr ⟨h1.1, h2⟩, h1.2⟩
theorem with_cut (a c : Int) (L : List Lt) : ∀ (cs : List Hc) (k : Nat), SoH cs → k ≤ cs.length → (∀ j, (hj : j < cs.length) → j < k → ahH cs[j] ⟨a, c, L⟩ = true) → (∀ hk : k < cs.length, ahH cs[k] ⟨a, c, L⟩ = false) →
    withH cs a c L = cs.take k ++ (if L = [] then [] else [⟨a, c, L⟩]) ++ cs.drop (if h : k < cs.length then (if unH a c cs[k] = true then k + 1 else k) else k)
  | [], k, _, hk, _, _ => by
    obtain rfl : k = 0 := by simpa using hk
    unfold withH
    by_cases hL : L = [] <;> simp [hL, putR]
  | b :: r, 0, hs, _, _, h0 => by
    have h0 := h0 (by simp)
    have hb : ∀ z ∈ r, ahH b z = true := (List.pairwise_cons.1 hs).1
    simp only [List.getElem_cons_zero, List.length_cons, Nat.zero_lt_succ, dite_true, List.take_zero, List.nil_append] at h0 ⊢
    by_cases hu : unH a c b = true
    · rw [if_pos hu]
      obtain ⟨rfl, rfl⟩ := (unH_iff _ _ _).1 hu
      have hr : ∀ z ∈ r, unH b.ac b.cl z = false := by
        intro z hz
        have := hb z hz
        rw [unH_no]; rw [ahH_iff] at this; omega
      have hx : ahH ⟨b.ac, b.cl, L⟩ b = false := by rw [← Bool.not_eq_true, ahH_iff]; simp only; omega
      unfold withH
      by_cases hL : L = []
      · rw [if_pos hL, if_pos hL, List.filter_cons_of_neg (by simp [hu]), List.filter_eq_self.2 (fun z hz => by simp [hr z hz])]
        simp
      · rw [if_neg hL, if_neg hL, putR, h0, hx]; simp
    · rw [if_neg hu]
      have hu : unH a c b = false := by simpa using hu
      have hx : ahH ⟨a, c, L⟩ b = true := by
        rw [unH_no] at hu
        rw [← Bool.not_eq_true, ahH_iff] at h0
        rw [ahH_iff]; simp only at h0 ⊢; omega
      have hr : ∀ z ∈ b :: r, unH a c z = false := by
        intro z hz
        have hz : ahH ⟨a, c, L⟩ z = true := by
          rcases List.mem_cons.1 hz with rfl | hz
          · exact hx
          · exact ordH.tr _ _ _ hx (hb z hz)
        rw [unH_no]; rw [ahH_iff] at hz; simp only at hz; omega
      unfold withH
      by_cases hL : L = []
      · rw [if_pos hL, if_pos hL, List.filter_eq_self.2 (fun z hz => by simp [hr z hz])]
        simp
      · rw [if_neg hL, if_neg hL, putR, h0, hx]; simp
  | b :: r, k + 1, hs, hk, hup, hlow => by
    have hb : ahH b ⟨a, c, L⟩ = true := hup 0 (Nat.zero_lt_succ _) (Nat.zero_lt_succ _)
    have ih := with_cut a c L r k hs.of_cons (by simpa using hk) (fun j hj hjk => hup (j + 1) (Nat.succ_lt_succ hj) (Nat.succ_lt_succ hjk)) (fun hk => hlow (Nat.succ_lt_succ hk))
    have hu : unH a c b = false := by rw [unH_no]; rw [ahH_iff] at hb; simp only at hb; omega
    have e : withH (b :: r) a c L = b :: withH r a c L := by
      unfold withH
      by_cases hL : L = []
      · rw [if_pos hL, if_pos hL, List.filter_cons_of_pos (by simp [hu])]
      · rw [if_neg hL, if_neg hL, putR, hb]; simp
    rw [e, ih]
    by_cases hlt : k < r.length
    · rw [dif_pos hlt, dif_pos (by simpa using hlt)]
      have e2 : (b :: r)[k + 1]'(Nat.succ_lt_succ hlt) = r[k] := rfl
      rw [e2]
      by_cases hu2 : unH a c r[k] = true <;> simp [hu2]
    · rw [dif_neg hlt, dif_neg (by simpa using hlt)]
      simp
theorem take_is {l m : List Lt} {x : Lt} (h : takeLR l x = (0, m)) : isLs m = true ∧ ((∀ y ∈ l, In64 y.qty) → ∀ y ∈ m, In64 y.qty) := by
  unfold takeLR at h
  split at h
  · rename_i hc; injection h with h1; exact absurd h1 hc
  · rename_i hc
    have hc : chkL l x = 0 := by simpa using hc
    obtain ⟨h1, h2⟩ := chkL_ok hc
    obtain ⟨m1, m2, m3⟩ := (isLs_iff l).1 h1
    have hp := okL_pos h2
    split at h
    · injection h with h1; cases h1
    · rename_i hq
      split at h
      · injection h with _ e; subst e
        exact ⟨(isLs_iff _).2 ⟨fun y hy => m1 y (List.mem_filter.1 hy).1, Nat.le_trans (List.length_filter_le _ _) m2, m3.filter _⟩, fun h6 y hy => h6 y (List.mem_filter.1 hy).1⟩
      · rename_i hz
        injection h with _ e; subst e
        refine ⟨(isLs_iff _).2 ⟨fun y hy => ?_, ?_, pairwise_putR ordL _ _ m3⟩, fun h6 y hy => ?_⟩
        · rcases mem_putR _ _ _ hy with rfl | hy
          · exact okL_qty h2 (by omega)
          · exact m1 y hy
        · rw [len_put_has m3 ⟨x.ast, x.tag, getL l x.ast x.tag - x.qty⟩ (get_has h1 (show getL l x.ast x.tag ≠ 0 by omega))]; exact m2
        · rcases mem_putR _ _ _ hy with rfl | hy
          · have := getL_in h6 x.ast x.tag
            unfold In64 at *
            simp only
            omega
          · exact h6 y hy
theorem own_lower {w : World} {B B' e size n : Nat} {v : Value} {xs : List Value} (h : w.ownsRow B e size v n xs) (hb : B' ≤ B) : w.ownsRow B' e size v n xs := by
  obtain ⟨h0, h⟩ := h
  refine ⟨h0, ?_⟩
  rcases h with h | ⟨g, cap, cur, h1, h2, h⟩
  · exact .inl h
  · exact .inr ⟨g, cap, cur, h1, Nat.le_trans hb h2, h⟩
end Go.Proofs.Ytldnponbkhgijaa
end
section
namespace Go.Proofs.Ytldnponbkhgijaa
open Go.ChangeShapes Go.WideShapes Go.ChangeAt Go.RowKit
set_option linter.unusedVariables false
set_option linter.unusedSimpArgs false

set_option maxHeartbeats 1000000 in
set_option maxRecDepth 100000 in
theorem aless_any (ua uc va vc : Int) (w : World) : Calls Try.prog 142 #[.agg #[.int .i64 ua, .int .i64 uc], .agg #[.int .i64 va, .int .i64 vc]] w fun e w' => e = .returned (.bool (keyLt ua uc va vc)) ∧ Below w.heap.size w w' := by
  have hB := since_alloc (since_alloc (Below.refl _ w) (.cells #[.int .i64 ua, .int .i64 uc] 24)) (.cells #[.int .i64 va, .int .i64 vc] 24)
  by_cases h1 : ua < va
  · have HE : Hid (keyLt ua uc va vc = true) := Lib.hid (by simp [keyLt, h1])
    go_enter Try.func142, Try.ntmps142
    go_wp2_with fail
    go_ret
    exact ⟨retB HE.out.symm, hB⟩
  by_cases h2 : ua = va
  · subst h2
    have HE : Hid (keyLt ua uc ua vc = decide (uc < vc)) := Lib.hid (by simp [keyLt])
    go_enter Try.func142, Try.ntmps142
    go_wp2_with fail
    go_ret
    exact ⟨retB HE.out.symm, hB⟩
  · have HE : Hid (keyLt ua uc va vc = false) := Lib.hid (decide_eq_false (by omega))
    have h2b : (ua == va) = false := by simpa using h2
    clear h2
    go_enter Try.func142, Try.ntmps142
    go_wp2_with fail
    go_ret
    exact ⟨retB HE.out.symm, hB⟩
set_option maxHeartbeats 1000000 in
set_option maxRecDepth 100000 in
theorem r15less_any (ua uc va vc : Int) (w : World) : Calls Try.prog 81 #[.agg #[.int .i64 ua, .int .i64 uc], .agg #[.int .i64 va, .int .i64 vc]] w fun e w' => e = .returned (.bool (keyLt ua uc va vc)) ∧ Below w.heap.size w w' := by
  have hB := since_alloc (since_alloc (Below.refl _ w) (.cells #[.int .i64 ua, .int .i64 uc] 24)) (.cells #[.int .i64 va, .int .i64 vc] 24)
  by_cases h1 : ua < va
  · have HE : Hid (keyLt ua uc va vc = true) := Lib.hid (by simp [keyLt, h1])
    go_enter Try.func81, Try.ntmps81
    go_wp2_with fail
    go_ret
    exact ⟨retB HE.out.symm, hB⟩
  by_cases h2 : ua = va
  · subst h2
    have HE : Hid (keyLt ua uc ua vc = decide (uc < vc)) := Lib.hid (by simp [keyLt])
    go_enter Try.func81, Try.ntmps81
    go_wp2_with fail
    go_ret
    exact ⟨retB HE.out.symm, hB⟩
  · have HE : Hid (keyLt ua uc va vc = false) := Lib.hid (decide_eq_false (by omega))
    have h2b : (ua == va) = false := by simpa using h2
    clear h2
    go_enter Try.func81, Try.ntmps81
    go_wp2_with fail
    go_ret
    exact ⟨retB HE.out.symm, hB⟩
end Go.Proofs.Ytldnponbkhgijaa
end
section
namespace Go.Proofs.Ytldnponbkhgijaa
open Go.ChangeShapes Go.WideShapes Go.ChangeAt Go.RowKit
set_option linter.unusedVariables false
set_option linter.unusedSimpArgs false

set_option maxHeartbeats 1000000 in
set_option maxRecDepth 100000 in
theorem hahead_any (x y : Hd) (w : World) : Calls Try.prog 123 #[x.val, y.val] w fun e w' => e = .returned (.bool (ahHd x y)) ∧ Below w.heap.size w w' := by
  obtain ⟨ua, uc, ut, uL, uC⟩ := x
  obtain ⟨va, vc, vt, vL, vC⟩ := y
  unfold Hd.val ahHd
  simp only
  have hB := since_alloc (since_alloc (Below.refl _ w) (.cells #[.int .i64 ua, .int .i64 uc, .slice ut uL uC] 169)) (.cells #[.int .i64 va, .int .i64 vc, .slice vt vL vC] 169)
  go_enter Try.func123, Try.ntmps123
  go_wp2_with fail
  refine (aless_any ua uc va vc _).mono ?_
  rintro e w1 ⟨rfl, hb⟩
  have hB1 := since_step hB hb
  go_wp2_with fail
  go_ret
  exact ⟨rfl, hB1⟩
theorem ent_hahead : Ent Try.prog 123 := Ent.of (by kernel_rfl)
theorem tells_hahead (B : Nat) (w : World) : Hd.Tells2 123 #[] ahHd B w := fun a b W _ => hahead_any a b W
set_option maxHeartbeats 1000000 in
set_option maxRecDepth 100000 in
theorem hof1_any (x : Hd) (a c : Int) (b : Nat) (w : World) (hb : Bk w b #[.int .i64 a, .int .i64 c]) :
    Calls Try.prog 177 #[x.val, .pointer (some ⟨b, 0, none⟩)] w fun e w' => e = .returned (.bool (unHd a c x)) ∧ Below w.heap.size w w' := by
  have hlt := hb.1
  have q0 := hb.2 0
  have q1 := hb.2 1
  have hB := since_alloc (Below.refl _ w) (.cells x.cells.toArray 169)
  obtain ⟨va, vc, vt, vL, vC⟩ := x
  unfold Hd.val unHd
  unfold Hd.cells at hB
  simp at q0 q1
  clear hb
  by_cases h1 : va = a
  · subst h1
    by_cases h2 : vc = c
    · subst h2
      go_enter Try.func177, Try.ntmps177
      go_wp2_with fail
      go_ret
      exact ⟨retB (by simp), hB⟩
    · have h2b : (vc == c) = false := by simpa using h2
      go_enter Try.func177, Try.ntmps177
      go_wp2_with fail
      go_ret
      exact ⟨retB (by simp [h2]), hB⟩
  · have h1b : (va == a) = false := by simpa using h1
    go_enter Try.func177, Try.ntmps177
    go_wp2_with fail
    go_ret
    exact ⟨retB (by simp [h1]), hB⟩
theorem ent_hof1 : Ent Try.prog 177 := Ent.of (by kernel_rfl)
theorem tells_hof1 (a c : Int) (b B : Nat) (w : World) (h : Bk w b #[.int .i64 a, .int .i64 c]) (hBw : B = w.heap.size) : Hd.Tells 177 #[.pointer (some ⟨b, 0, none⟩)] (unHd a c) B w := by
  subst hBw
  exact fun g W hW => hof1_any g a c b W (h.below hW)
set_option maxHeartbeats 1000000 in
set_option maxRecDepth 100000 in
theorem hof_any (a c : Int) (w : World) :
    Calls Try.prog 126 #[.agg #[.int .i64 a, .int .i64 c]] w fun e w' => (∃ b, e = .returned (.func (.func 177) #[] #[.pointer (some ⟨b, 0, none⟩)]) ∧ Bk w' b #[.int .i64 a, .int .i64 c]) ∧ Below w.heap.size w w' := by
  have hB := since_alloc (Below.refl _ w) (.cells #[.int .i64 a, .int .i64 c] 24)
  have hV := Bk.new w #[.int .i64 a, .int .i64 c] 24
  go_enter Try.func126, Try.ntmps126
  go_wp2_with fail
  go_ret
  exact ⟨⟨_, rfl, hV⟩, hB⟩
set_option maxHeartbeats 4000000 in
set_option maxRecDepth 100000 in
theorem his_any (A : Option Addr) (cap : Nat) (l : List Hd) (cs : List Hc) (w : World) (hl : l.length ≤ 900000) (hcl : ∀ g ∈ cs, g.L.length ≤ 900000) (hs : Sl w A (rc Hd.cells l)) (ht : HdTab w l cs) :
    Calls Try.prog 59 #[.slice A l.length cap] w fun e w' => e = .returned (.bool (isH cs)) ∧ Below w.heap.size w w' := by
  have HLC := Lib.hid ht.1
  go_enter Try.func59, Try.ntmps59
  go_wp2_with fail
  go_loopw [7] (fun i wr => ∃ k : Nat, k ≤ l.length ∧ i = .int .i64 k ∧ (∀ j, (hj : j < cs.length) → j < k → okH cs[j] = true) ∧ Below w.heap.size w wr) (fun i _ => l.length - (intOf i).toNat)
  case atStart => exact ⟨0, by omega, rfl, fun j hj h => absurd h (by omega), Below.refl _ _⟩
  case round =>
    obtain ⟨k, hk, rfl, hno, hB⟩ := hrel
    by_cases hlt : k < l.length
    · have hlc : k < cs.length := HLC.out ▸ hlt
      obtain ⟨b, o, rfl, hbw, hg⟩ := (hs.below hB).hd hlt
      have hI := (ht.below hB).2 k hlt hlc
      have hm := hcl _ (List.getElem_mem hlc)
      have hlk : (k : Int) < (l.length : Int) := by omega
      have hA := since_alloc hB (.cells l[k].cells.toArray 169)
      have HNX : Hid (okH cs[k] = true → ∀ j, (hj : j < cs.length) → j < k + 1 → okH cs[j] = true) := Lib.hid (fun h j hj hjk => by
        rcases Nat.lt_or_ge j k with h' | h'
        · exact hno j hj h'
        · obtain rfl : j = k := by omega
          exact h)
      have HBD : Hid (okH cs[k] = false → isH cs = false) := Lib.hid (fun h => isH_bad hlc h)
      clear hno
      generalize l[k] = v at *
      generalize cs[k] = d at *
      obtain ⟨va, vc, vt, vL, vC⟩ := v
      obtain ⟨da, dc, dL⟩ := d
      obtain ⟨i0, i1, i2, i3⟩ := hI
      simp only at i0 i1 i2 i3 hm
      subst i0; subst i1; subst i2
      obtain ⟨g0, g1, g2⟩ := hg
      unfold Hd.cells at hA
      simp only at g0 g1 g2 hA HNX HBD
      have hsl := i3.alloc (.cells #[.int .i64 va, .int .i64 vc, .slice vt dL.length vC] 169)
      clear i3
      by_cases hq : dL.length = 0
      · have HR := Lib.hid (HBD.out (okH_zero hq))
        have hqb : (((dL.length : Nat) : Int) == 0) = true := by simpa using hq
        clear HBD HNX hq hsl
        go_wp2_with fail
        go_ret
        exact ⟨retB HR.out.symm, hA⟩
      · have hqb : (((dL.length : Nat) : Int) == 0) = false := by simpa using hq
        have HOK := Lib.hid (okH_some (x := ⟨va, vc, dL⟩) hq)
        simp only at HOK
        have HIS := Lib.hid (lis_any vt vC dL _ (by omega) hsl)
        clear hsl hq
        cases hi : isLs dL with
        | false =>
          have HR := Lib.hid (HBD.out (HOK.out.trans hi))
          clear HBD HNX HOK
          rw [hi] at HIS
          go_wp2_with fail
          refine HIS.out.mono ?_
          rintro e u1 ⟨rfl, hb1⟩
          have hB1 := since_step hA hb1
          go_wp2_with fail
          go_ret
          exact ⟨retB HR.out.symm, hB1⟩
        | true =>
          have HN := Lib.hid (HNX.out (HOK.out.trans hi))
          clear HBD HNX HOK
          rw [hi] at HIS
          go_wp2_with fail
          refine HIS.out.mono ?_
          rintro e u1 ⟨rfl, hb1⟩
          have hB1 := since_step hA hb1
          go_wp2_with fail
          go_roundw
          case rel => exact ⟨k + 1, by omega, by go_num, HN.out, hB1⟩
          case measure => simp [intOf]; omega
    · obtain rfl : k = l.length := by omega
      have HR := Lib.hid ((isH_end fun j hj => hno j hj (HLC.out ▸ hj)).trans (HdTab.rising ah_is ht).symm)
      have hs1 := hs.below hB
      clear hno
      go_wp2_with fail
      refine (rising_hd A cap l 123 #[] ahHd _ (by omega) hs1 ent_hahead (tells_hahead _ _)).mono ?_
      rintro e w1 ⟨rfl, hb1⟩
      have hB1 := since_step hB hb1
      go_wp2_with fail
      go_ret
      exact ⟨retB HR.out.symm, hB1⟩
theorem pick_hd {w : World} {l : List Hd} {cs : List Hc} (ht : HdTab w l cs) (a c : Int) : ∃ va vc vt vC, pickL (unHd a c) Hd.zero l = ⟨va, vc, vt, (lotsH cs a c).length, vC⟩ ∧ Sl w vt (rc Lt.cells (lotsH cs a c)) := by
  unfold pickL lotsH
  rcases HdTab.find (fun g d h => un_is a c g d h) ht with ⟨h1, h2⟩ | ⟨g, d, h1, h2, h3⟩
  · rw [h1, h2]
    exact ⟨0, 0, none, 0, rfl, Sl.nil⟩
  · rw [h1, h2]
    obtain ⟨va, vc, vt, vL, vC⟩ := g
    have h4 := h3.len
    simp only at h4
    subst h4
    exact ⟨va, vc, vt, vC, rfl, h3.sl⟩
set_option maxHeartbeats 2000000 in
set_option maxRecDepth 100000 in
theorem hlots_any (A : Option Addr) (cap : Nat) (l : List Hd) (cs : List Hc) (a c : Int) (w : World) (hl : l.length ≤ 900000) (hcl : ∀ g ∈ cs, g.L.length ≤ 900000) (hs : Sl w A (rc Hd.cells l)) (ht : HdTab w l cs) :
    Calls Try.prog 62 #[.slice A l.length cap, .agg #[.int .i64 a, .int .i64 c]] w fun e w' => (∃ A' c', e = .returned (.slice A' (lotsH cs a c).length c') ∧ w'.ownsRow w.heap.size 93 3 (.slice A' (lotsH cs a c).length c') (lotsH cs a c).length (rc Lt.cells (lotsH cs a c))) ∧ Below w.heap.size w w' := by
  have hlen := lotsH_len hcl a c
  obtain ⟨va, vc, vt, vC, hv, hsl⟩ := pick_hd ht a c
  generalize lotsH cs a c = L at *
  have HFD := Lib.hid (fun V b h1 h2 => (find_hd A cap l 177 #[.pointer (some ⟨b, 0, none⟩)] (unHd a c) V (by omega) h1 ent_hof1 h2))
  rw [hv] at HFD
  unfold Hd.val at HFD
  simp only at HFD
  clear hv
  have hB0 := since_alloc (Below.refl _ w) (.cells #[.int .i64 a, .int .i64 c] 24)
  have hs0 := hs.alloc (.cells #[.int .i64 a, .int .i64 c] 24)
  have hsl := hsl.alloc (.cells #[.int .i64 a, .int .i64 c] 24)
  have hws := hB0.size
  clear hs ht
  go_enter Try.func62, Try.ntmps62
  go_wp2_with fail
  refine (hof_any a c _).mono ?_
  rintro e w1 ⟨⟨b, rfl, hK⟩, hb⟩
  have hB1 := since_step hB0 hb
  have hs0 := hs0.below hb
  have hsl := hsl.below hb
  clear hb hB0
  go_wp2_with fail
  refine (HFD.out _ b hs0 (tells_hof1 a c b _ _ hK rfl)).mono ?_
  rintro e w2 ⟨rfl, hb⟩
  have hB2 := since_step hB1 hb
  have hsl := (hsl.below hb).alloc (.cells #[.int .i64 va, .int .i64 vc, .slice vt L.length vC] 169)
  have hB3 := since_alloc hB2 (.cells #[.int .i64 va, .int .i64 vc, .slice vt L.length vC] 169)
  clear hb hs0 hK HFD hB1 hB2
  go_wp2_with fail
  refine (clone_lt vt vC L _ (by omega) hsl).mono ?_
  rintro e w3 ⟨⟨A', c', rfl, ho⟩, hb⟩
  have hB4 := since_step hB3 hb
  have ho := own_lower ho hB3.size
  go_wp2_with fail
  go_ret
  exact ⟨⟨A', c', rfl, ho⟩, hB4⟩
end Go.Proofs.Ytldnponbkhgijaa
end
