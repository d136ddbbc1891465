import Derived.Test.YtpmnjojednbnpaaGreatDoorWf20
set_option maxHeartbeats 16000000
set_option maxRecDepth 100000
set_option linter.unusedVariables false
set_option linter.unusedSimpArgs false
namespace Go.Proofs.YtpmnjojednbnpaaGreatDoor
open Go.ChangeShapes Go.WideShapes Go.ChangeAt Go.RowKit
section
theorem nat_one (w : World) :
  Calls Tryz.prog 71 #[.int .u64 1] w fun e w' => (∃ A n c, e = .returned (.agg #[.bool false, .slice A n c]) ∧ Fr w.heap.size A n ∧ BigAt w' false A n c 1) ∧ Below w.heap.size w w' := nat_any 1 w (by decide)
theorem bval_dropk (l : List Nat) (j : Nat) (h : j < l.length) : bval (l.drop j) = l[j] + 2 * bval (l.drop (j + 1)) := by
 rw [List.drop_eq_getElem_cons h]; rfl
theorem bdiv_any (x0 : Int) (s : Bool) (A : Option Addr) (n c d : Nat) (w : World) (la : n ≤ 10000) (hd0 : 0 < d) (hd : d < 9223372036854775808) (hx : BigAt w s A n c x0) :
  Calls Tryz.prog 93 #[.agg #[.bool s, .slice A n c], .int .u64 (d : Int)] w fun e w' =>
   (∃ s' A' n' c', e = .returned (.tuple #[.agg #[.bool s', .slice A' n' c'], .int .u64 (x0 % (d : Int))]) ∧ Fr w.heap.size A' n' ∧ BigAt w' s' A' n' c' (x0 / (d : Int))) ∧ Below w.heap.size w w' := by
 obtain ⟨a, h1, h2, h3, h4, h5, h6, h7⟩ := hx.ex;subst h1;clear hx h6;have H7 := hJz h7;clear h7;have P1 : BB ((w.alloc (.cells #[.bool s, .slice A a.length c] 124)).alloc (.cells #[.bool false, .slice none 0 0] 124)) w.heap.size s A a.length c := (BB.new _ _ _ _ _ _).alloc _
 have P2 : BB ((w.alloc (.cells #[.bool s, .slice A a.length c] 124)).alloc (.cells #[.bool false, .slice none 0 0] 124)) (w.heap.size + 1) false none 0 0 := by
  have := BB.new (w.alloc (.cells #[.bool s, .slice A a.length c] 124)) false none 0 0 124
  rwa [World.size_alloc] at this
 have hB0 : Below w.heap.size w ((w.alloc (.cells #[.bool s, .slice A a.length c] 124)).alloc (.cells #[.bool false, .slice none 0 0] 124)) := since_alloc (since_alloc (Below.refl _ w) _) _;have S1 := h4.below hB0;have hcs := @cell_set;go_enter Tryz.func93, Tryz.ntmps93;go_upto_region 1 with fail;generalize ((w.alloc (.cells #[.bool s, .slice A a.length c] 124)).alloc (.cells #[.bool false, .slice none 0 0] 124)) = W0 at *;obtain ⟨p0, p1, p2, p3, p4⟩ := _root_.id P1;have hW01 := P2.1;go_wp2_with fail;go_loopw [6, 7, 8] (fun vr vq i wr => ∃ (k r : Nat) (A7 : Option Addr) (c7 : Nat) (R : List Nat), i = .int .i64 k ∧ vr = .int .u64 r ∧ vq = .slice A7 R.length c7 ∧ k ≤ a.length ∧ BRow W0.heap.size wr A7 c7 R ∧ R.length + k = a.length ∧ bval (a.drop k) = bval R * d + r ∧ r < d ∧ Below W0.heap.size W0 wr) (fun _ _ i _ => (intOf i).toNat)
 case atStart => exact ⟨a.length, 0, none, 0, [], rfl, rfl, rfl, by omega, ⟨⟨Nat.le_refl _, by decide⟩, Sl.nil, Bin.nil, fun b o h => by cases h⟩, by simp, by simp [bval], hd0, Below.refl _ _⟩
 case round =>
  obtain ⟨k, r, A7, c7, R, rfl, rfl, rfl, hk, hS, hRl, hV, hr, hB⟩ := hrel;obtain ⟨q0, q1, q2, q3, q4⟩ := P1.below hB;have HV := hJz hV;have HRL := hJz hRl;have hRle : R.length ≤ 10000 := by omega
  clear hV hRl p0 p1 p2 p3 p4
  by_cases hk0 : 0 < k
  ·obtain ⟨j, hj⟩ : ∃ j, k = j + 1 := ⟨k - 1, by omega⟩;have hlt : j < a.length := by omega
   obtain ⟨bb, o, rfl, hz⟩ := (S1.below hB).byte hlt;have hbr := World.block_lt_of_cell? _ _ hz;have hbit := h5.1.at_ hlt;have HT := hJz (show bval (a.drop j) = a[j] + 2 * (bval R * d + r) by rw [bval_dropk a j hlt, ← hj, HV.out]);have HJ := hJz (show k = j + 1 ∧ R.length + k = a.length from ⟨hj, HRL.out⟩);have f1 : IntKind.i64.wrap ((k : Int) - 1) = (j : Int) := by rw [IntKind.wrap_i64]; omega
   have d1 : decide (0 < (k : Int)) = true := decide_eq_true (by omega);have d1' : decide (0 < k) = true := decide_eq_true hk0;clear hj HV HRL;generalize a[j] = bt at *;obtain ⟨v, hv⟩ : ∃ v : Nat, v = 2 * r := ⟨_, rfl⟩;obtain ⟨x, hx⟩ : ∃ x : Nat, x = v + bt := ⟨_, rfl⟩;have f2 : IntKind.u64.wrap (2 * (r : Int)) = (v : Int) := by rw [IntKind.wrap_u64]; omega
   have f3 : IntKind.u64.wrap (bt : Int) = (bt : Int) := by rw [IntKind.wrap_u64]; omega
   have f4 : IntKind.u64.wrap ((v : Int) + (bt : Int)) = (x : Int) := by rw [IntKind.wrap_u64]; omega
   have hxd : x < 2 * d := by omega
   have HX := hJz (show bt + 2 * (bval R * d + r) = 2 * (bval R * d) + x by omega);clear hv hx
   by_cases hxx : d ≤ x
   ·have d2 : decide ((d : Int) ≤ (x : Int)) = true := decide_eq_true (by omega);have d2' : decide (d ≤ x) = true := decide_eq_true hxx;have f5 : IntKind.u64.wrap ((x : Int) - (d : Int)) = ((x - d : Nat) : Int) := by rw [IntKind.wrap_u64]; omega
    go_wp2_with (first
     | (at_builtin; refine wpList_app rfl (.tmp 35) (.tmp 37) rfl EU rfl rfl (own_nil wr.heap.size _ _) (m := 1) (news := by8 [1]) rfl (Sl.new_ _ _ _) (by8_one _) (by decide) (by decide) (by simp) ?_; intro A8 c8 w8 hown8 hg8 hb8; have hb8' : Below wr.heap.size wr w8 := (since_alloc (Below.refl _ _) _).trans hb8; have hr8 := hS.2.1.below hb8'; have hz8 := hb8'.size)
     | (at_builtin; refine wpList_app rfl (.tmp 39) (.tmp 40) rfl EU rfl rfl hown8 (m := R.length) (news := by8 R) (by rw [by8_length, Nat.mul_one]) hr8 (by8_one _) (by unfold maxLen; omega) (by omega) hz8 ?_; intro A9 c9 w9 hown9 hg9 hb9; have hb9' : Below wr.heap.size wr w9 := hb8'.trans hb9)
     | fail)
    have hr9 : Sl w9 A9 (by8 (1 :: R)) := by
     have := Sl.of_own hown9;simpa [by8] using this
    have hc9 := own_cap' hown9;go_roundw
    case rel =>
     refine ⟨j, x - d, A9, c9, 1 :: R, rfl, rfl, by simp [Nat.add_comm], by omega, ⟨⟨by simp; omega, hc9.2⟩, hr9, fun b hb => by (rcases List.mem_cons.1 hb with rfl | h'; omega; exact hS.2.2.1 b h'), ?_⟩, by have := HJ.out; simp; omega, ?_, by omega, hB.trans (hb9'.mono hB.size)⟩
     ·have := (Fr.own hown9).le hB.size (Nat.le_refl _);simpa [Nat.add_comm] using this
     ·rw [HT.out, HX.out];simp only [bval];rw [Nat.add_mul, Nat.mul_assoc, Nat.one_mul]; omega
    case measure => have := HJ.out; simp [intOf]; omega
   ·have d2 : decide ((d : Int) ≤ (x : Int)) = false := decide_eq_false (by omega);have d2' : decide (d ≤ x) = false := decide_eq_false hxx
    go_wp2_with (first
     | (at_builtin; refine wpList_app rfl (.tmp 35) (.tmp 37) rfl EU rfl rfl (own_nil wr.heap.size _ _) (m := 1) (news := by8 [0]) rfl (Sl.new_ _ _ _) (by8_one _) (by decide) (by decide) (by simp) ?_; intro A8 c8 w8 hown8 hg8 hb8; have hb8' : Below wr.heap.size wr w8 := (since_alloc (Below.refl _ _) _).trans hb8; have hr8 := hS.2.1.below hb8'; have hz8 := hb8'.size)
     | (at_builtin; refine wpList_app rfl (.tmp 39) (.tmp 40) rfl EU rfl rfl hown8 (m := R.length) (news := by8 R) (by rw [by8_length, Nat.mul_one]) hr8 (by8_one _) (by unfold maxLen; omega) (by omega) hz8 ?_; intro A9 c9 w9 hown9 hg9 hb9; have hb9' : Below wr.heap.size wr w9 := hb8'.trans hb9)
     | fail)
    have hr9 : Sl w9 A9 (by8 (0 :: R)) := by
     have := Sl.of_own hown9;simpa [by8] using this
    have hc9 := own_cap' hown9;go_roundw
    case rel =>
     refine ⟨j, x, A9, c9, 0 :: R, rfl, rfl, by simp [Nat.add_comm], by omega, ⟨⟨by simp; omega, hc9.2⟩, hr9, fun b hb => by (rcases List.mem_cons.1 hb with rfl | h'; omega; exact hS.2.2.1 b h'), ?_⟩, by have := HJ.out; simp; omega, ?_, by omega, hB.trans (hb9'.mono hB.size)⟩
     ·have := (Fr.own hown9).le hB.size (Nat.le_refl _);simpa [Nat.add_comm] using this
     ·rw [HT.out, HX.out];simp only [bval];rw [Nat.add_mul, Nat.mul_assoc, Nat.zero_mul]; omega
    case measure => have := HJ.out; simp [intOf]; omega
  ·obtain rfl : k = 0 := by omega
   have hV := HV.out;rw [List.drop_zero] at hV;have hdiv : bval a / d = bval R := by rw [hV, Nat.mul_comm, Nat.mul_add_div hd0, Nat.div_eq_of_lt hr, Nat.add_zero]
   have hmod : bval a % d = r := by rw [hV, Nat.mul_comm, Nat.mul_add_mod, Nat.mod_eq_of_lt hr]
   have hB1 := hB0.trans (hB.mono hB0.size);have P2r := P2.below hB;have P1r := P1.below hB;have hfr := hS.2.2.2;obtain ⟨z, hz⟩ : ∃ z : Int, z = if s = true then -(bval R : Int) else (bval R : Int) := ⟨_, rfl⟩
   have HTR := hJz (fun w hs => trim_any s A7 c7 R z hz w (by omega) hS.1 hS.2.2.1 hs)
   have HFACT := hJz (show (s = false → x0 / (d : Int) = z ∧ x0 % (d : Int) = (r : Int)) ∧ (s = true → r = 0 → x0 / (d : Int) = z ∧ x0 % (d : Int) = (r : Int)) ∧ (s = true → 0 < r → x0 / (d : Int) = z - 1 ∧ x0 % (d : Int) = (d : Int) - (r : Int)) from by
    have h7 := H7.out
    refine ⟨fun e => ?_, fun e e0 => ?_, fun e e0 => ?_⟩
    ·rw [e] at h7 hz;simp only [Bool.false_eq_true, if_false] at h7 hz;have h8 := floor_pos x0 d (by omega);rw [show x0.natAbs = bval a by omega, hdiv, hmod] at h8;rw [hz]; exact h8
    ·rw [e] at h7 hz;simp only [if_true] at h7 hz
     rcases Nat.eq_zero_or_pos (bval a) with h0 | h0
     ·have hR0 : bval R = 0 := by rw [← hdiv, h0]; simp
      rw [h7, h0, hz, hR0, e0]; simp
     ·have h8 := floor_zero x0 d hd0 (by omega) (by rw [show x0.natAbs = bval a by omega, hmod]; exact e0);rw [show x0.natAbs = bval a by omega, hdiv] at h8;rw [hz, h8.1, h8.2, e0]; exact ⟨rfl, rfl⟩
    ·rw [e] at h7 hz;simp only [if_true] at h7 hz;have h0 : bval a ≠ 0 := by intro h; rw [h] at hmod; simp at hmod; omega
     have h8 := floor_neg x0 d hd0 (by omega) (by rw [show x0.natAbs = bval a by omega, hmod]; exact e0);rw [show x0.natAbs = bval a by omega, hdiv, hmod] at h8
     rw [hz, h8.1, h8.2]; exact ⟨by omega, rfl⟩)
   have HSR := hJz hS.2.1;clear hV hdiv hmod HV HRL H7 hz;go_wp2_with fail;refine (HTR.out _ HSR.out).mono ?_;rintro e w4 ⟨⟨n4, c4, rfl, hn4, hbig⟩, hb4⟩;have hB4 := since_step hB1 hb4;have P14 := P1r.below hb4;have P24 := P2r.below hb4;have hg4 : W0.heap.size ≤ w4.heap.size := Nat.le_trans hB.size hb4.size;clear hb4 HTR HSR q0 q1 q2 q3 q4 P1r P2r hB1;generalize decide (z < 0) = s4 at *;have hz4 := hbig.alloc (.cells #[.bool s4, .slice A7 n4 c4] 124);have P15 := P14.alloc (.cells #[.bool s4, .slice A7 n4 c4] 124);have P25 := P24.alloc (.cells #[.bool s4, .slice A7 n4 c4] 124);have P35 := BB.new w4 s4 A7 n4 c4 124;have hB5 := since_alloc hB4 (.cells #[.bool s4, .slice A7 n4 c4] 124);have n4l : n4 ≤ 10000 := by omega
   have hS5 : W0.heap.size ≤ (w4.alloc (.cells #[.bool s4, .slice A7 n4 c4] 124)).heap.size := by simp; omega
   clear hbig P14 P24 hB4
   cases s with
   | false =>
    have E := hJz (HFACT.out.1 rfl);go_upto_region 15 with fail;generalize w4.alloc (.cells #[.bool s4, .slice A7 n4 c4] 124) = W5 at *;obtain ⟨p0, p1, p2, p3, p4⟩ := P15;obtain ⟨q0, q1, q2, q3, q4⟩ := P25;obtain ⟨t0, t1, t2, t3, t4⟩ := P35;go_wp2_with fail
    refine bodyPost_ret (v := .tuple #[.agg #[.bool s4, .slice A7 n4 c4], .int .u64 (r : Int)]) ?_ rfl ?_
    ·simp [results, Tryz.results93, go_sem, cell_set, q1, q2]
    ·refine ⟨⟨_, A7, n4, c4, by rw [E.out.2], (hfr.le (Nat.le_trans (Nat.le_refl _) hB0.size) hn4), ?_⟩, ?_⟩
     ·rw [E.out.1]; exact (hz4.far (fun b o hA h0 => by have := hfr b o hA (by omega); simp; omega) _).far (fun b o hA h0 => by have := hfr b o hA (by omega); simp; omega) _
     ·repeat' (first | with_reducible exact hB5 | with_reducible refine Below.setCell ?_ ?_ _ | with_reducible refine Below.alloc ?_ ?_ _)
      all_goals first | (simp; done) | (simp; omega) | exact hB5.size
   | true =>
    by_cases hr0 : r = 0
    ·have E := hJz (HFACT.out.2.1 rfl hr0);have d3 : decide (0 < (r : Int)) = false := decide_eq_false (by omega);have d3' : decide (0 < r) = false := decide_eq_false (by omega);clear hr0;go_upto_region 15 with fail;generalize w4.alloc (.cells #[.bool s4, .slice A7 n4 c4] 124) = W5 at *;obtain ⟨p0, p1, p2, p3, p4⟩ := P15;obtain ⟨q0, q1, q2, q3, q4⟩ := P25;obtain ⟨t0, t1, t2, t3, t4⟩ := P35;go_wp2_with fail
     refine bodyPost_ret (v := .tuple #[.agg #[.bool s4, .slice A7 n4 c4], .int .u64 (r : Int)]) ?_ rfl ?_
     ·simp [results, Tryz.results93, go_sem, cell_set, q1, q2]
     ·refine ⟨⟨_, A7, n4, c4, by rw [E.out.2], (hfr.le (Nat.le_trans (Nat.le_refl _) hB0.size) hn4), ?_⟩, ?_⟩
      ·rw [E.out.1]; exact (hz4.far (fun b o hA h0 => by have := hfr b o hA (by omega); simp; omega) _).far (fun b o hA h0 => by have := hfr b o hA (by omega); simp; omega) _
      ·repeat' (first | with_reducible exact hB5 | with_reducible refine Below.setCell ?_ ?_ _ | with_reducible refine Below.alloc ?_ ?_ _)
       all_goals first | (simp; done) | (simp; omega) | exact hB5.size
    ·have E := hJz (HFACT.out.2.2 rfl (by omega));have d3 : decide (0 < (r : Int)) = true := decide_eq_true (by omega);have d3' : decide (0 < r) = true := decide_eq_true (by omega);have f6 : IntKind.u64.wrap ((d : Int) - (r : Int)) = (d : Int) - (r : Int) := by rw [IntKind.wrap_u64]; omega
     clear hr0;go_upto_region 15 with fail;have hg5 : w4.heap.size < (w4.alloc (.cells #[.bool s4, .slice A7 n4 c4] 124)).heap.size := P35.1;generalize w4.alloc (.cells #[.bool s4, .slice A7 n4 c4] 124) = W5 at *;obtain ⟨p0, p1, p2, p3, p4⟩ := _root_.id P15;go_upto_region 16 with fail;obtain ⟨t0, t1, t2, t3, t4⟩ := _root_.id P35;clear p0 p1 p2 p3 p4
     go_region_with (first
      | (go_at_call 71; refine (nat_one _).mono ?_; rintro e w6 ⟨⟨A6, n6, c6, rfl, hf6, X6⟩, hb6⟩; have G6 := P35.drew.below hb6; have Q6 := P25.drew.below hb6; have Z6 := hz4.drew.below hb6; have hB6 := since_step hB5.drew hb6; have hs6 := hb6.size; have n6l : n6 ≤ 1 := (X6.len (k := 1)).2 (by decide); obtain ⟨u0, u1, u2, u3, u4⟩ := _root_.id G6; clear hb6)
      | (go_at_call 122; refine (bsub_any z 1 s4 false A7 A6 n4 c4 n6 c6 _ (by omega) (by omega) Z6 X6).mono ?_; rintro e w7 ⟨⟨s7, A10, n7, d7, rfl, hf7, Z7⟩, hb7⟩; have G7 := G6.below hb7; have Q7 := Q6.below hb7; have hB7 := since_step hB6 hb7; obtain ⟨v0, v1, v2, v3, v4⟩ := _root_.id G7; clear hb7))
     all_goals
      have hne : w.heap.size + 1 < w4.heap.size := by omega
      have hw6 := Q6.1;have G8 := G7.set2 s7 A10 n7 d7;have Q8 := (Q7.far (p := ⟨w4.heap.size, 0, none⟩) (by simp; omega) (.bool s7)).far (p := ⟨w4.heap.size, 1, none⟩) (by simp; omega) (.slice A10 n7 d7);have Z8 := (Z7.far (p := ⟨w4.heap.size, 0, none⟩) (fun b o hA h0 => by have := hf7 b o hA h0; simp; omega) (.bool s7)).far (p := ⟨w4.heap.size, 1, none⟩) (fun b o hA h0 => by have := hf7 b o hA h0; simp; omega) (.slice A10 n7 d7)
      have hB8 : Below w.heap.size w ((w7.setCell ⟨w4.heap.size, 0, none⟩ (.bool s7)).setCell ⟨w4.heap.size, 1, none⟩ (.slice A10 n7 d7)) :=
       (hB7.setCell (p := ⟨w4.heap.size, 0, none⟩) (by simp; omega) _).setCell (p := ⟨w4.heap.size, 1, none⟩) (by simp; omega) _
      generalize (w7.setCell ⟨w4.heap.size, 0, none⟩ (.bool s7)).setCell ⟨w4.heap.size, 1, none⟩ (.slice A10 n7 d7) = W8 at *;clear t0 t1 t2 t3 t4 u0 u1 u2 u3 u4 v0 v1 v2 v3 v4 G6 G7 Q6 Q7 Z6 Z7;obtain ⟨q0, q1, q2, q3, q4⟩ := Q8;obtain ⟨t0, t1, t2, t3, t4⟩ := G8;have hWs : w.heap.size ≤ w6.heap.size := hB6.size;go_wp2_with fail
      refine bodyPost_ret (v := .tuple #[.agg #[.bool s7, .slice A10 n7 d7], .int .u64 ((d : Int) - (r : Int))]) ?_ rfl ?_
      ·simp [results, Tryz.results93, go_sem, cell_set, q1, q2]
      ·refine ⟨⟨_, A10, n7, d7, by rw [E.out.2], (hf7.le hWs (Nat.le_refl _)), ?_⟩, ?_⟩
       ·rw [E.out.1]; exact (Z8.far (fun b o hA h0 => by have := hf7 b o hA h0; simp; omega) _).far (fun b o hA h0 => by have := hf7 b o hA h0; simp; omega) _
       ·repeat' (first | with_reducible exact hB8 | with_reducible refine Below.setCell ?_ ?_ _ | with_reducible refine Below.alloc ?_ ?_ _)
        all_goals first | (simp; done) | (simp; omega) | exact hB8.size
end
end Go.Proofs.YtpmnjojednbnpaaGreatDoor
