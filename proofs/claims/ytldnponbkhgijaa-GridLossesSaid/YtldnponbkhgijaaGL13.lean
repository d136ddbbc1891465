import Derived.Test.YtldnponbkhgijaaGL12
import Derived.Deep.CutBlock
import Derived.Deep.CutRange
import Derived.Deep.DeepCutAuto
section
namespace Go.Proofs.Ytldnponbkhgijaa
open Go.ChangeShapes Go.WideShapes Go.ChangeAt Go.RowKit
set_option linter.unusedVariables false
set_option linter.unusedSimpArgs false

theorem BB.set1 {w : World} {g : Nat} {s : Bool} {A : Option Addr} {n c : Nat} (h : BB w g s A n c) (A' : Option Addr) (n' c' : Nat) : BB (w.setCell ⟨g, 1, none⟩ (.slice A' n' c')) g s A' n' c' := by
  obtain ⟨h0, h1, h2, f1, f2⟩ := h
  refine ⟨by simpa using h0, ?_, ?_, by simpa using f1, by simpa using f2⟩ <;> simp [cell_set, h1, h2]
theorem norm_cons0 {R : List Nat} (h : Norm R) (h0 : R ≠ []) : Norm (0 :: R) := by
  refine ⟨bin_cons0 h.1, fun k hk hl => ?_⟩
  cases k with
  | zero => simp at hl; exact absurd hl h0
  | succ k =>
    simp at hk hl
    simpa using h.2 k hk hl
theorem BigAt.twice {w w' : World} {s : Bool} {A A' : Option Addr} {n c c' : Nat} {z : Int} {bits : List Nat} (hl : bits.length = n) (hN : Norm bits) (hs : s = true → bits ≠ []) (hz : z = if s = true then -(bval bits : Int) else (bval bits : Int))
    (h0 : 0 < n) (hr : Sl w' A' (by8 (0 :: bits))) (hc : n + 1 ≤ c' ∧ c' ≤ maxLen) : BigAt w' s A' (n + 1) c' (2 * z) := by
  refine ⟨0 :: bits, by simp [hl], hc.1, hc.2, hr, norm_cons0 hN (by intro e; rw [e] at hl; simp at hl; omega), fun _ => by simp, ?_⟩
  rw [hz]
  cases s <;> simp [bval] <;> omega
set_option maxRecDepth 100000 in
set_option maxHeartbeats 8000000 in
theorem rwide_any (x : Int) (hx : In128 x) (w : World) :
    Calls Try.prog 21 #[.int .i64 (hiN x), .int .u64 (loN x)] w fun e w' => bigR w w' e x ∧ Below w.heap.size w w' := by
  have hsp := split_in hx
  have hh := hi_rng x
  have l1 := lo_nn x
  have l2 := lo_lt x
  obtain ⟨l, hl⟩ := Int.eq_ofNat_of_zero_le l1
  rw [hl] at hsp l2 ⊢
  clear l1 hl hx
  generalize hiN x = h at *
  have hcs := @cell_set
  have HSP := Lib.hid hsp
  clear hsp
  have P4 : BB (w.alloc (.cells #[.bool false, .slice none 0 0] 35)) w.heap.size false none 0 0 := BB.new _ _ _ _ _ _
  go_enter Try.func21, Try.ntmps21
  go_wp2_with fail
  refine (bof_any h _ hh).mono ?_
  rintro e w1 ⟨⟨s, A, n, c, rfl, hf1, X1⟩, hb1⟩
  have n64 : n ≤ 64 := (X1.len (k := 64)).2 (by simp; omega)
  have Q1 := (P4.below hb1).alloc (.cells #[.bool s, .slice A n c] 35)
  have hB1 := since_alloc (since_step (since_alloc (Below.refl _ w) _) hb1) (.cells #[.bool s, .slice A n c] 35)
  have G1 := BB.new w1 s A n c 35
  have X2 := X1.alloc (.cells #[.bool s, .slice A n c] 35)
  have hlt := X1.lt
  have hg : w.heap.size < w1.heap.size := by have := (P4.below hb1).1; exact this
  have hf1' : Fr (w.heap.size + 1) A n := by simpa using hf1
  clear hb1 X1 P4 hf1
  go_upto_region 2 with fail
  have hgW := G1.1
  generalize w1.alloc (.cells #[.bool s, .slice A n c] 35) = W at *
  go_wp2_with fail
  go_loopw [6] (fun i wr => ∃ (k : Nat) (A5 : Option Addr) (n5 c5 : Nat), i = .int .i64 k ∧ k ≤ 64 ∧ n5 ≤ 64 + k ∧ BB wr w1.heap.size s A5 n5 c5 ∧ BigAt wr s A5 n5 c5 (h * 2 ^ k) ∧ BB wr w.heap.size false none 0 0 ∧
      (∀ b o, A5 = some ⟨b, o, none⟩ → 0 < n5 → b ≠ w1.heap.size) ∧ Fr (w.heap.size + 1) A5 n5 ∧ Below w.heap.size w wr) (fun i _ => 64 - (intOf i).toNat)
  case atStart => exact ⟨0, A, n, c, rfl, by omega, by omega, G1, by simpa using X2, Q1, fun b o hA h0 => by have := hlt b o hA h0; omega, hf1', hB1⟩
  case round =>
    obtain ⟨k, A5, n5, c5, rfl, hk, hn5, G, X, Q, hne, hfr, hB⟩ := hrel
    obtain ⟨g0, g1, g2, g3, g4⟩ := _root_.id G
    obtain ⟨q0, q1, q2, q3, q4⟩ := _root_.id Q
    have done : 64 ≤ k ∨ n5 = 0 → h * 2 ^ k = h * 18446744073709551616 := by
      rintro (h1 | h1)
      · obtain rfl : k = 64 := by omega
        rfl
      · have h2 := X.len.1 (Nat.le_of_eq h1)
        have h3 : h * 2 ^ k = 0 := by simp at h2; omega
        have h4 : h = 0 := by
          rcases Int.mul_eq_zero.1 h3 with h5 | h5
          · exact h5
          · exfalso
            have : (0 : Int) < 2 ^ k := Int.pow_pos (by omega)
            omega
        rw [h4]; simp
    have DONE := Lib.hid done
    clear done
    by_cases hlk : k < 64
    · have d1 : decide ((k : Int) < 64) = true := decide_eq_true (by omega)
      have d1' : decide (k < 64) = true := decide_eq_true hlk
      by_cases hn0 : 0 < n5
      · have d2 : decide (0 < (n5 : Int)) = true := decide_eq_true (by omega)
        have d2' : decide (0 < n5) = true := decide_eq_true hn0
        obtain ⟨R, r1, r2, r3, r4, r5, r6, r7⟩ := X.ex
        have R7 := Lib.hid (show BigAt wr s A5 n5 c5 (h * 2 ^ k) ∧ R.length = n5 ∧ Norm R ∧ (s = true → R ≠ []) ∧ h * 2 ^ k = (if s = true then -(bval R : Int) else (bval R : Int)) from ⟨X, r1, r5, r6, r7⟩)
        clear r7 X r6
        go_wp2_with (first
          | (at_builtin; refine wpList_app rfl (.tmp 20) (.tmp 21) rfl EU rfl rfl (own_nil wr.heap.size _ _) (m := 1) (news := by8 [0]) rfl (Sl.new_ _ _ _) (by8_one _) (by decide) (by decide) (by simp) ?_; intro A8 c8 w8 hown8 hg8 hb8; have hb8' : Below wr.heap.size wr w8 := (since_alloc (Below.refl _ _) _).trans hb8; have hr8 := r4.below hb8'; have hz8 := hb8'.size; obtain ⟨u0, u1, u2, u3, u4⟩ := G.below hb8')
          | (at_builtin; refine wpList_app rfl (.tmp 23) (.tmp 25) rfl EU rfl rfl hown8 (m := n5) (news := by8 R) (by rw [by8_length, Nat.mul_one]; exact r1) hr8 (by8_one _) (by unfold maxLen; omega) (by omega) hz8 ?_; intro A9 c9 w9 hown9 hg9 hb9; have hb9' : Below wr.heap.size wr w9 := hb8'.trans hb9; obtain ⟨v0, v1, v2, v3, v4⟩ := G.below hb9')
          | fail)
        have hr9 : Sl w9 A9 (by8 (0 :: R)) := by
          have := Sl.of_own hown9
          simpa [by8] using this
        have hc9 := own_cap' hown9
        have hf9 := Fr.own hown9
        have hwr := hB.size
        have G9 := (G.below hb9').set1 A9 (1 + n5) c9
        have Q9 := (Q.below hb9').far (p := ⟨w1.heap.size, 1, none⟩) (by simp; omega) (.slice A9 (1 + n5) c9)
        have hB9 : Below w.heap.size w (w9.setCell ⟨w1.heap.size, 1, none⟩ (.slice A9 (1 + n5) c9)) := (hB.trans (hb9'.mono hB.size)).setCell (by simp; omega) _
        have hgr : w1.heap.size < wr.heap.size := G.1
        have X9 : BigAt (w9.setCell ⟨w1.heap.size, 1, none⟩ (.slice A9 (1 + n5) c9)) s A9 (1 + n5) c9 (h * 2 ^ (k + 1)) := by
          obtain ⟨X0, e1, e2, e3, e4⟩ := R7.out
          have h9 := BigAt.twice (w := wr) (A := A5) (c := c5) (c' := c9) e1 e2 e3 e4 hn0 hr9 (by omega)
          rw [show n5 + 1 = 1 + n5 from by omega] at h9
          have e5 : h * 2 ^ (k + 1) = 2 * (h * 2 ^ k) := by rw [Int.pow_succ]; rw [← Int.mul_assoc]; omega
          rw [e5]
          exact h9.far (p := ⟨w1.heap.size, 1, none⟩) (fun b o hA h0 => by have := hf9 b o hA h0; simp; omega) _
        go_roundw
        case rel =>
          exact ⟨k + 1, A9, 1 + n5, c9, by go_num, by omega, by omega, G9, X9, Q9, fun b o hA h0 => by have := hf9 b o hA h0; omega, hf9.le (by omega) (Nat.le_refl _), hB9⟩
        case measure => simp [intOf]; omega
      · have hn00 : n5 = 0 := by omega
        have d2 : decide (0 < (n5 : Int)) = false := decide_eq_false (by omega)
        have d2' : decide (0 < n5) = false := decide_eq_false hn0
        have HZ := Lib.hid (DONE.out (Or.inr hn00))
        clear hn00 hn0
        go_upto_region 8 with fail
        rw [HZ.out] at X
        go_region_with (first
          | (go_at_call 85; refine (nat_any l _ (by omega)).mono ?_; rintro e w6 ⟨⟨A6, n6, c6, rfl, hf6, X6⟩, hb6⟩; have G6 := G.drew.below hb6; have Q6 := Q.drew.below hb6; have Z6 := X.drew.below hb6; have hB6 := since_step hB.drew hb6; have n6l : n6 ≤ 64 := (X6.len (k := 64)).2 (by simp; omega); obtain ⟨u0, u1, u2, u3, u4⟩ := _root_.id G6; clear hb6)
          | (go_at_call 52; refine (badd' (by omega) (by omega) Z6 X6).mono ?_; rintro e w7 ⟨⟨s7, A10, n7, d7, rfl, hf7, Z7⟩, hb7⟩; have Q7 := Q6.below hb7; have hB7 := since_step hB6 hb7; obtain ⟨v0, v1, v2, v3, v4⟩ := _root_.id Q7; clear hb7))
        all_goals
          have hw6 := Q6.1
          have hWs : w.heap.size ≤ w6.heap.size := hB6.size
          go_wp2_with fail
          refine bodyPost_ret (v := .agg #[.bool s7, .slice A10 n7 d7]) ?_ rfl ?_
          · simp [results, Try.results21, go_sem, cell_set, v1, v2]
          · refine ⟨⟨s7, A10, n7, d7, rfl, hf7.le hWs (Nat.le_refl _), ?_⟩, ?_⟩
            · rw [HSP.out]; exact (Z7.far (fun b o hA h0 => by have := hf7 b o hA h0; simp; omega) _).far (fun b o hA h0 => by have := hf7 b o hA h0; simp; omega) _
            · repeat' (first | with_reducible exact hB7 | with_reducible refine Below.setCell ?_ ?_ _)
              all_goals first | (simp; done) | (simp; omega)
    · have d1 : decide ((k : Int) < 64) = false := decide_eq_false (by omega)
      have d1' : decide (k < 64) = false := decide_eq_false hlk
      have HZ := Lib.hid (DONE.out (Or.inl (by omega)))
      go_upto_region 8 with fail
      rw [HZ.out] at X
      go_region_with (first
        | (go_at_call 85; refine (nat_any l _ (by omega)).mono ?_; rintro e w6 ⟨⟨A6, n6, c6, rfl, hf6, X6⟩, hb6⟩; have G6 := G.drew.below hb6; have Q6 := Q.drew.below hb6; have Z6 := X.drew.below hb6; have hB6 := since_step hB.drew hb6; have n6l : n6 ≤ 64 := (X6.len (k := 64)).2 (by simp; omega); obtain ⟨u0, u1, u2, u3, u4⟩ := _root_.id G6; clear hb6)
        | (go_at_call 52; refine (badd' (by omega) (by omega) Z6 X6).mono ?_; rintro e w7 ⟨⟨s7, A10, n7, d7, rfl, hf7, Z7⟩, hb7⟩; have Q7 := Q6.below hb7; have hB7 := since_step hB6 hb7; obtain ⟨v0, v1, v2, v3, v4⟩ := _root_.id Q7; clear hb7))
      all_goals
        have hw6 := Q6.1
        have hWs : w.heap.size ≤ w6.heap.size := hB6.size
        go_wp2_with fail
        refine bodyPost_ret (v := .agg #[.bool s7, .slice A10 n7 d7]) ?_ rfl ?_
        · simp [results, Try.results21, go_sem, cell_set, v1, v2]
        · refine ⟨⟨s7, A10, n7, d7, rfl, hf7.le hWs (Nat.le_refl _), ?_⟩, ?_⟩
          · rw [HSP.out]; exact (Z7.far (fun b o hA h0 => by have := hf7 b o hA h0; simp; omega) _).far (fun b o hA h0 => by have := hf7 b o hA h0; simp; omega) _
          · repeat' (first | with_reducible exact hB7 | with_reducible refine Below.setCell ?_ ?_ _)
            all_goals first | (simp; done) | (simp; omega)
end Go.Proofs.Ytldnponbkhgijaa
end
section
namespace Go.Proofs.Ytldnponbkhgijaa
open Go.ChangeShapes Go.WideShapes Go.ChangeAt Go.RowKit
set_option linter.unusedVariables false
set_option linter.unusedSimpArgs false
theorem bval_dropkR (l : List Nat) (j : Nat) (h : j < l.length) : bval (l.drop j) = l[j] + 2 * bval (l.drop (j + 1)) := by
  rw [List.drop_eq_getElem_cons h]; rfl
theorem BigAt.l64 {w : World} {s : Bool} {A : Option Addr} {n c : Nat} {z : Int} (h : BigAt w s A n c z) (hz : In64 z) : n ≤ 64 := (h.len (k := 64)).2 (by unfold In64 at hz; simp; omega)
set_option maxRecDepth 100000 in
set_option maxHeartbeats 4000000 in
theorem rint_any (x : Int) (hin : In64 x) (s : Bool) (A : Option Addr) (n c : Nat) (w : World) (hx : BigAt w s A n c x) :
    Calls Try.prog 55 #[.agg #[.bool s, .slice A n c]] w fun e w' => e = .returned (.int .i64 x) ∧ Below w.heap.size w w' := by
  have la := hx.l64 hin
  obtain ⟨a, h1, h2, h3, h4, h5, h6, h7⟩ := hx.ex
  subst h1
  clear hx h6
  have P1 := BB.new w s A a.length c 35
  have hB0 := since_alloc (Below.refl _ w) (.cells #[.bool s, .slice A a.length c] 35)
  have S1 := h4.below hB0
  have H7 := Lib.hid h7
  have HI := Lib.hid hin
  clear h7 hin h4
  go_enter Try.func55, Try.ntmps55
  go_upto_region 1 with fail
  generalize w.alloc (.cells #[.bool s, .slice A a.length c] 35) = W0 at *
  obtain ⟨p0, p1, p2, p3, p4⟩ := _root_.id P1
  go_wp2_with fail
  go_loopw [3, 4] (fun vn vi wr => ∃ (k : Nat) (v : Int), vi = .int .i64 k ∧ vn = .int .i64 v ∧ k ≤ a.length ∧ v = (if s = true then -(bval (a.drop k) : Int) else (bval (a.drop k) : Int)) ∧ Below W0.heap.size W0 wr) (fun _ i _ => (intOf i).toNat)
  case atStart => exact ⟨a.length, 0, rfl, rfl, by omega, by simp [bval], Below.refl _ _⟩
  case round =>
    obtain ⟨k, v, rfl, rfl, hk, hv, hB⟩ := hrel
    obtain ⟨q0, q1, q2, q3, q4⟩ := P1.below hB
    clear p0 p1 p2 p3 p4
    by_cases hk0 : 0 < k
    · obtain ⟨j, hj⟩ : ∃ j, k = j + 1 := ⟨k - 1, by omega⟩
      have hlt : j < a.length := by omega
      obtain ⟨bb, o, rfl, hz⟩ := (S1.below hB).byte hlt
      have hbr := World.block_lt_of_cell? _ _ hz
      have hbit := h5.1.at_ hlt
      have hdr : bval (a.drop j) = a[j] + 2 * bval (a.drop k) := by rw [bval_dropkR a j hlt, ← hj]
      have hle : bval (a.drop j) ≤ bval a := by
        have h8 := bval_drop a j (by omega)
        have h9 : 1 * bval (a.drop j) ≤ 2 ^ j * bval (a.drop j) := Nat.mul_le_mul_right _ (Nat.two_pow_pos j)
        omega
      have hin := HI.out
      have h7 := H7.out
      unfold In64 at hin
      have HJ := Lib.hid hj
      have HDR := Lib.hid hdr
      have f1 : IntKind.i64.wrap ((k : Int) - 1) = (j : Int) := by rw [IntKind.wrap_i64]; omega
      have d1 : decide (0 < (k : Int)) = true := decide_eq_true (by omega)
      have d1' : decide (0 < k) = true := decide_eq_true hk0
      generalize hdj : bval (a.drop j) = dj at *
      generalize hdk : bval (a.drop k) = dk at *
      generalize a[j] = bt at *
      have f2 : IntKind.i64.wrap (bt : Int) = (bt : Int) := by rw [IntKind.wrap_i64]; omega
      cases s with
      | false =>
        simp only [Bool.false_eq_true, if_false] at hv h7
        have f3 : IntKind.i64.wrap (2 * v) = 2 * v := by rw [IntKind.wrap_i64]; omega
        have f4 : IntKind.i64.wrap (2 * v + (bt : Int)) = (dj : Int) := by rw [IntKind.wrap_i64]; omega
        have HDJ := Lib.hid hdj
        clear hdr hle hin h7 hdj hdk hv hj
        go_wp2
        go_roundw
        case rel => exact ⟨j, (dj : Int), rfl, rfl, by omega, by simp [HDJ.out], hB⟩
        case measure => have := HJ.out; simp [intOf]; omega
      | true =>
        simp only [if_true] at hv h7
        have f3 : IntKind.i64.wrap (2 * v) = 2 * v := by rw [IntKind.wrap_i64]; omega
        have f4 : IntKind.i64.wrap (2 * v - (bt : Int)) = -(dj : Int) := by rw [IntKind.wrap_i64]; omega
        have HDJ := Lib.hid hdj
        clear hdr hle hin h7 hdj hdk hv hj
        go_wp2
        go_roundw
        case rel => exact ⟨j, -(dj : Int), rfl, rfl, by omega, by simp [HDJ.out], hB⟩
        case measure => have := HJ.out; simp [intOf]; omega
    · obtain rfl : k = 0 := by omega
      rw [List.drop_zero] at hv
      have hvx : v = x := by rw [hv, H7.out]
      subst hvx
      go_wp2
      go_ret
      exact ⟨rfl, since_step hB0 hB⟩
theorem BB.new1 (w : World) (o : Obj) (s : Bool) (A : Option Addr) (n c : Nat) (t : TypeId) : BB ((w.alloc o).alloc (.cells #[.bool s, .slice A n c] t)) (w.heap.size + 1) s A n c := by
  have := BB.new (w.alloc o) s A n c t
  rwa [World.size_alloc] at this
end Go.Proofs.Ytldnponbkhgijaa
end
