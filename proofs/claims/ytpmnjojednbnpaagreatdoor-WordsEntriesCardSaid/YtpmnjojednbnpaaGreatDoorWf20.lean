import Derived.Deep.DeepCutAuto
import Derived.Test.YtpmnjojednbnpaaGreatDoorWf19
import Derived.Test.YtpmnjojednbnpaaGreatDoorWf09
import Derived.Test.YtpmnjojednbnpaaGreatDoorWf16
import Derived.Lib.ItoaNum
import Derived.Deep.CutBlock
import Derived.Deep.CutRange
set_option maxHeartbeats 16000000
set_option maxRecDepth 100000
set_option linter.unusedVariables false
set_option linter.unusedSimpArgs false
namespace Go.Proofs.YtpmnjojednbnpaaGreatDoor
open Go.ChangeShapes Go.WideShapes Go.ChangeAt Go.RowKit
section
theorem mul_sign {s t : Bool} {x y : Int} {p q v : Nat} (hx : x = if s = true then -(p : Int) else (p : Int)) (hy : y = if t = true then -(q : Int) else (q : Int)) (hv : v = p * q) : x * y = if (s != t) = true then -(v : Int) else (v : Int) := by
 subst hx; subst hy; subst hv
 cases s <;> cases t <;> simp [Int.neg_mul, Int.mul_neg]
theorem bin_cons0 {R : List Nat} (h : Bin R) : Bin (0 :: R) := fun b hb => by
 rcases List.mem_cons.1 hb with rfl | h'
 ·omega
 ·exact h b h'
theorem bmul_any (x y : Int) (sx sy : Bool) (A B : Option Addr) (na ca nb cb : Nat) (w : World) (la : na ≤ 10000) (lb : nb ≤ 10000) (hx : BigAt w sx A na ca x) (hy : BigAt w sy B nb cb y) :
  Calls Tryz.prog 70 #[.agg #[.bool sx, .slice A na ca], .agg #[.bool sy, .slice B nb cb]] w fun e w' => bigR w w' e (x * y) ∧ Below w.heap.size w w' := by
 obtain ⟨a, h1, h2, h3, h4, h5, h6, h7⟩ := hx.ex;obtain ⟨b, k1, k2, k3, k4, k5, k6, k7⟩ := hy.ex;subst h1; subst k1;clear hx hy h6 k6;have H7 := hJz h7;have K7 := hJz k7;clear h7 k7;have P1 : BB (((w.alloc (.cells #[.bool sx, .slice A a.length ca] 124)).alloc (.cells #[.bool sy, .slice B b.length cb] 124)).alloc (.cells #[.bool false, .slice none 0 0] 124)) w.heap.size sx A a.length ca := ((BB.new _ _ _ _ _ _).alloc _).alloc _
 have P2 : BB (((w.alloc (.cells #[.bool sx, .slice A a.length ca] 124)).alloc (.cells #[.bool sy, .slice B b.length cb] 124)).alloc (.cells #[.bool false, .slice none 0 0] 124)) (w.heap.size + 1) sy B b.length cb := by
  have := (BB.new (w.alloc (.cells #[.bool sx, .slice A a.length ca] 124)) sy B b.length cb 124).alloc (.cells #[.bool false, .slice none 0 0] 124)
  rwa [World.size_alloc] at this
 have P3 : BB (((w.alloc (.cells #[.bool sx, .slice A a.length ca] 124)).alloc (.cells #[.bool sy, .slice B b.length cb] 124)).alloc (.cells #[.bool false, .slice none 0 0] 124)) (w.heap.size + 1 + 1) false none 0 0 := by
  have := BB.new ((w.alloc (.cells #[.bool sx, .slice A a.length ca] 124)).alloc (.cells #[.bool sy, .slice B b.length cb] 124)) false none 0 0 124
  rwa [World.size_alloc, World.size_alloc] at this
 have hB0 : Below w.heap.size w (((w.alloc (.cells #[.bool sx, .slice A a.length ca] 124)).alloc (.cells #[.bool sy, .slice B b.length cb] 124)).alloc (.cells #[.bool false, .slice none 0 0] 124)) := since_alloc (since_alloc (since_alloc (Below.refl _ w) _) _) _;have S1 := h4.below hB0;have S2 := k4.below hB0;have hcs := @cell_set;have hlt1 := P3.1;go_enter Tryz.func70, Tryz.ntmps70;go_upto_region 2 with fail;generalize (((w.alloc (.cells #[.bool sx, .slice A a.length ca] 124)).alloc (.cells #[.bool sy, .slice B b.length cb] 124)).alloc (.cells #[.bool false, .slice none 0 0] 124)) = W0 at *;obtain ⟨p10, p11, p12, p13, p14⟩ := _root_.id P1
 go_wp2_with (first
  | (at_builtin; refine wpList_app rfl (.tmp 9) (.tmp 11) rfl EU rfl rfl (own_nil W0.heap.size _ _) (m := a.length) (news := by8 a) (by rw [by8_length, Nat.mul_one]) S1 (by8_one _) (by unfold maxLen; omega) (by omega) (Nat.le_refl _) ?_; intro A2 c2 w2 hown2 hg2 hb2)
  | fail)
 have R2 : Sl w2 A2 (by8 a) := by simpa using Sl.of_own hown2
 clear hown2 hg2 p10 p11 p12 p13 p14;go_loopw [5, 6, 7] (fun vs vr i wr => ∃ (k : Nat) (A5 : Option Addr) (c5 : Nat) (S : List Nat) (A6 : Option Addr) (c6 : Nat) (R : List Nat), i = .int .i64 k ∧ vs = .slice A5 S.length c5 ∧ vr = .slice A6 R.length c6 ∧ k ≤ b.length ∧ BRow W0.heap.size wr A5 c5 S ∧ Sl wr A6 (by8 R) ∧ Bin R ∧ R.length = a.length + k ∧ S.length ≤ a.length + k ∧ bval R = 2 ^ k * bval a ∧ bval S = bval a * bval (b.take k) ∧ Below W0.heap.size W0 wr) (fun _ _ i _ => b.length - (intOf i).toNat)
 case atStart => exact ⟨0, none, 0, [], A2, c2, a, rfl, rfl, by simp, by omega, ⟨⟨Nat.le_refl _, by decide⟩, Sl.nil, Bin.nil, fun b o h => by cases h⟩, R2, h5.1, rfl, by simp, by simp, by simp [bval], hb2⟩
 case round =>
  obtain ⟨k, A5, c5, S, A6, c6, R, rfl, rfl, rfl, hk, hS, hR, hRb, hRl, hSl, hRv, hSv, hB⟩ := hrel;obtain ⟨q0, q1, q2, q3, q4⟩ := P2.below hB;have HRL := hJz hRl;have HRV := hJz hRv;have HSV := hJz hSv;have hRle : R.length ≤ 20000 := by omega
  have hSle : S.length ≤ 20000 := by omega
  clear hRl hRv hSv
  by_cases hlt : k < b.length
  ·obtain ⟨bb, o, rfl, hz⟩ := (S2.below hB).byte hlt;have hbr := World.block_lt_of_cell? _ _ hz;have hbit := k5.1.at_ hlt;have HT := hJz (bval_take b k hlt)
   have hR2 : bval (0 :: R) = 2 ^ (k + 1) * bval a := by
    have := HRV.out;simp only [bval, Nat.zero_add, this, Nat.pow_succ, Nat.mul_assoc, Nat.mul_left_comm, Nat.mul_comm]
   have HR2 := hJz hR2;clear hR2;generalize b[k] = bt at *
   rcases (show bt = 0 ∨ bt = 1 by omega) with rfl | rfl
   ·go_wp2_with (first
     | (at_builtin; refine wpList_app rfl (.tmp 29) (.tmp 30) rfl EU rfl rfl (own_nil wr.heap.size _ _) (m := 1) (news := by8 [0]) rfl (Sl.new_ _ _ _) (by8_one _) (by decide) (by decide) (by simp) ?_; intro A8 c8 w8 hown8 hg8 hb8; have hb8' : Below wr.heap.size wr w8 := (since_alloc (Below.refl _ _) _).trans hb8; have hr8 := hR.below hb8'; have hz8 := hb8'.size)
     | (at_builtin; refine wpList_app rfl (.tmp 32) (.tmp 33) rfl EU rfl rfl hown8 (m := R.length) (news := by8 R) (by rw [by8_length, Nat.mul_one]) hr8 (by8_one _) (by unfold maxLen; omega) (by omega) hz8 ?_; intro A9 c9 w9 hown9 hg9 hb9; have hb9' : Below wr.heap.size wr w9 := hb8'.trans hb9)
     | fail)
    have hr9 : Sl w9 A9 (by8 (0 :: R)) := by
     have := Sl.of_own hown9;simpa [by8] using this
    go_roundw
    case rel =>
     refine ⟨k + 1, A5, c5, S, A9, c9, 0 :: R, by go_num, rfl, by simp [Nat.add_comm], by omega, ⟨hS.1, hS.2.1.below hb9', hS.2.2⟩, hr9, bin_cons0 hRb, by simp [HRL.out]; omega, by omega, HR2.out, ?_, hB.trans (hb9'.mono hB.size)⟩;rw [HT.out, HSV.out]; simp
    case measure => simp [intOf]; omega
   ·go_wp2_with fail;refine (bplus_any A5 A6 c5 c6 S R _ (by omega) (by omega) hS.2.2.1 hRb hS.2.1 hR).mono ?_;rintro e w3 ⟨⟨A7, c7, out, rfl, hO, hv7, hl7⟩, hb3⟩;have HV7 := hJz hv7;have hol : out.length ≤ a.length + (k + 1) := by have := HRL.out; omega
    have hR3 := hR.below hb3;have hB3 := hB.trans (hb3.mono hB.size);clear hv7 hl7 hb3 q0 q1 q2 q3 q4
    go_wp2_with (first
     | (at_builtin; refine wpList_app rfl (.tmp 29) (.tmp 30) rfl EU rfl rfl (own_nil w3.heap.size _ _) (m := 1) (news := by8 [0]) rfl (Sl.new_ _ _ _) (by8_one _) (by decide) (by decide) (by simp) ?_; intro A8 c8 w8 hown8 hg8 hb8; have hb8' : Below w3.heap.size w3 w8 := (since_alloc (Below.refl _ _) _).trans hb8; have hr8 := hR3.below hb8'; have hz8 := hb8'.size)
     | (at_builtin; refine wpList_app rfl (.tmp 32) (.tmp 33) rfl EU rfl rfl hown8 (m := R.length) (news := by8 R) (by rw [by8_length, Nat.mul_one]) hr8 (by8_one _) (by unfold maxLen; omega) (by omega) hz8 ?_; intro A9 c9 w9 hown9 hg9 hb9; have hb9' : Below w3.heap.size w3 w9 := hb8'.trans hb9)
     | fail)
    have hr9 : Sl w9 A9 (by8 (0 :: R)) := by
     have := Sl.of_own hown9;simpa [by8] using this
    go_roundw
    case rel =>
     refine ⟨k + 1, A7, c7, out, A9, c9, 0 :: R, by go_num, rfl, by simp [Nat.add_comm], by omega, ⟨hO.1, hO.2.1.below hb9', hO.2.2.1, hO.2.2.2.le hB.size (Nat.le_refl _)⟩, hr9, bin_cons0 hRb, by simp [HRL.out]; omega, hol, HR2.out, ?_, hB3.trans (hb9'.mono hB3.size)⟩;rw [HV7.out, HT.out, HSV.out, HRV.out, Nat.mul_add, Nat.mul_one, Nat.mul_comm (2 ^ k)]
    case measure => simp [intOf]; omega
  ·have hkb : k = b.length := by omega
   have hvS : bval S = bval a * bval b := by rw [HSV.out, hkb, List.take_length]
   have HVS := hJz hvS;obtain ⟨p10, p11, p12, p13, p14⟩ := P1.below hB;have P3r := P3.below hB;have hB1 := hB0.trans (hB.mono hB0.size);clear hvS hkb;have HM := hJz (mul_sign H7.out K7.out HVS.out);have hfr := hS.2.2.2
   cases sx <;> cases sy
   all_goals
    go_wp2_with fail;refine (trim_any _ A5 c5 S (x * y) HM.out _ (by omega) hS.1 hS.2.2.1 hS.2.1).mono ?_;rintro e w4 ⟨⟨n4, c4, rfl, hn4, hbig⟩, hb4⟩;obtain ⟨r0, r1, r2, r3, r4⟩ := P3r.below hb4;have hB4 := since_step hB1 hb4;clear hb4;generalize hs2 : decide (x * y < 0) = s2 at *;clear hs2
    go_wp2
    refine bodyPost_ret (v := .agg #[.bool s2, .slice A5 n4 c4]) ?_ rfl ?_
    ·simp [results, Tryz.results70, go_sem, cell_set, r1, r2]
    ·refine ⟨⟨s2, A5, n4, c4, rfl, hfr.le hB0.size hn4, ?_⟩, ?_⟩
     ·exact (hbig.far (fun b o hA h0 => by have := hfr b o hA (by omega); simp; omega) _).far (fun b o hA h0 => by have := hfr b o hA (by omega); simp; omega) _
     ·repeat' (first | with_reducible exact hB4 | with_reducible refine Below.setCell ?_ ?_ _)
      all_goals first | (simp; done) | (simp; omega)
end
section
theorem T2.set2 {w : World} {g : Nat} {a b : Int} (h : T2 w g a b) (c d : Int) : T2 ((w.setCell ⟨g, 0, none⟩ (.int .i64 c)).setCell ⟨g, 1, none⟩ (.int .u64 d)) g c d := by
 obtain ⟨h0, h1, h2, f1, f2⟩ := h;refine ⟨by simpa using h0, ?_, ?_, by simpa using f1, by simpa using f2⟩ <;> simp [cell_set, h1, h2]
theorem BB.set2 {w : World} {g : Nat} {s : Bool} {A : Option Addr} {n c : Nat} (h : BB w g s A n c) (s' : Bool) (A' : Option Addr) (n' c' : Nat) : BB ((w.setCell ⟨g, 0, none⟩ (.bool s')).setCell ⟨g, 1, none⟩ (.slice A' n' c')) g s' A' n' c' := by
 obtain ⟨h0, h1, h2, f1, f2⟩ := h;refine ⟨by simpa using h0, ?_, ?_, by simpa using f1, by simpa using f2⟩ <;> simp [cell_set, h1, h2]
theorem BB.far {w : World} {g : Nat} {s : Bool} {A : Option Addr} {n c : Nat} (h : BB w g s A n c) {p : Addr} (hp : p.block ≠ g) (v : Value) : BB (w.setCell p v) g s A n c := by
 obtain ⟨h0, h1, h2, f1, f2⟩ := h;have k : ∀ o, (w.setCell p v).cell? ⟨g, o, none⟩ = w.cell? ⟨g, o, none⟩ := fun o => World.cell?_setCell_other w _ _ _ (by rintro rfl; exact hp rfl);exact ⟨by simpa using h0, (k 0).trans h1, (k 1).trans h2, by simpa using f1, by simpa using f2⟩
theorem BigAt.abs {w : World} {s : Bool} {A : Option Addr} {n c : Nat} {z : Int} (h : BigAt w s A n c z) : BigAt w false A n c (z.natAbs : Int) := by
 obtain ⟨bits, h1, h2, h3, h4, h5, h6, h7⟩ := h.ex;refine ⟨bits, h1, h2, h3, h4, h5, (fun h => nomatch h), ?_⟩;rw [h7]
 cases s <;> simp
end
section
structure Dg (Y A B u d : Nat) : Prop where
  hy : Y = A * 4294967296 + B
  hb : B < 4294967296
  ha : 2147483648 ≤ A
  ha2 : A < 4294967296
  hu : u < Y
  hd : d < 4294967296
theorem lin_le (qa qb r d M : Nat) (hc : qb ≤ r * M + d) : qa * M + qb ≤ (qa + r) * M + d := by rw [Nat.add_mul]; omega
section digit
variable {Y A B u d : Nat}
def dgQ (Y u d : Nat) : Nat := (u * 4294967296 + d) / Y
theorem Dg.pos (h : Dg Y A B u d) : 0 < Y := by have := h.hu; omega
theorem Dg.le (h : Dg Y A B u d) : dgQ Y u d ≤ u / A := by
 have hA : 0 < A := by have := h.ha; omega
 rw [Nat.le_div_iff_mul_le hA];have h1 : dgQ Y u d * Y ≤ u * 4294967296 + d := Nat.div_mul_le_self _ _;have h2 : dgQ Y u d * (A * 4294967296) ≤ dgQ Y u d * Y := Nat.mul_le_mul_left _ (by have := h.hy; omega);have h3 : dgQ Y u d * (A * 4294967296) = dgQ Y u d * A * 4294967296 := by rw [Nat.mul_assoc]
 have := h.hd;omega
theorem Dg.q2 (h : Dg Y A B u d) : u / A ≤ 4294967297 := by
 have hA : 0 < A := by have := h.ha; omega
 have : u / A < 4294967298 := by
  rw [Nat.div_lt_iff_lt_mul hA];have := h.hu; have := h.hy; have := h.hb; have := h.ha;omega
 omega
theorem Dg.done (h : Dg Y A B u d) {q r : Nat} (e : q * A + r = u) (hq : dgQ Y u d ≤ q) (hc : q * B ≤ r * 4294967296 + d) : q = dgQ Y u d := by
 have : q ≤ dgQ Y u d := by
  clear hq;unfold dgQ;have e2 : q * Y = q * A * 4294967296 + q * B := by rw [h.hy, Nat.mul_add q (A * 4294967296) B, Nat.mul_assoc q A 4294967296]
  rw [Nat.le_div_iff_mul_le h.pos, e2];subst e;exact lin_le _ _ _ _ _ hc
 omega
theorem Dg.rest (h : Dg Y A B u d) : dgQ Y u d * Y ≤ u * 4294967296 + d ∧ u * 4294967296 + d - dgQ Y u d * Y < Y := by
 have h1 : dgQ Y u d * Y ≤ u * 4294967296 + d := Nat.div_mul_le_self _ _;refine ⟨h1, ?_⟩;have h2 : Y * dgQ Y u d + (u * 4294967296 + d) % Y = u * 4294967296 + d := Nat.div_add_mod _ _;have h3 : (u * 4294967296 + d) % Y < Y := Nat.mod_lt _ h.pos;rw [Nat.mul_comm] at h2;omega
end digit
theorem Dg.u2 {Y A B u d u2 : Nat} (h : Dg Y A B u d) (hu : u2 = u * 4294967296 + d - dgQ Y u d * Y) : u * 4294967296 + d = dgQ Y u d * Y + u2 ∧ u2 < Y := by
 obtain ⟨h1, h2⟩ := h.rest;rw [hu];refine ⟨?_, h2⟩;generalize dgQ Y u d * Y = m at *;omega
end
section
theorem floor_pos (x : Int) (d : Nat) (h : 0 ≤ x) : x / (d : Int) = ((x.natAbs / d : Nat) : Int) ∧ x % (d : Int) = ((x.natAbs % d : Nat) : Int) := by
 obtain ⟨n, rfl⟩ := Int.eq_ofNat_of_zero_le h;exact ⟨by simp, by simp⟩
theorem floor_zero (x : Int) (d : Nat) (hd : 0 < d) (h : x < 0) (hr : x.natAbs % d = 0) : x / (d : Int) = -((x.natAbs / d : Nat) : Int) ∧ x % (d : Int) = 0 := by
 have h1 := Nat.div_add_mod x.natAbs d;rw [hr, Nat.add_zero] at h1
 have hx : x = -((x.natAbs / d : Nat) : Int) * (d : Int) := by
  have : ((d * (x.natAbs / d) : Nat) : Int) = (x.natAbs : Int) := by rw [h1]
  rw [Int.natCast_mul] at this;rw [Int.neg_mul, Int.mul_comm, this]; omega
 generalize x.natAbs / d = q at *
 refine ⟨?_, ?_⟩
 ·rw [hx, Int.mul_ediv_cancel _ (by omega)]
 ·rw [hx, Int.mul_emod_left]
theorem floor_neg (x : Int) (d : Nat) (hd : 0 < d) (h : x < 0) (hr : 0 < x.natAbs % d) : x / (d : Int) = -((x.natAbs / d : Nat) : Int) + -1 ∧ x % (d : Int) = (d : Int) - ((x.natAbs % d : Nat) : Int) := by
 have h1 := Nat.div_add_mod x.natAbs d;have h2 := Nat.mod_lt x.natAbs hd
 have hx : x = ((d : Int) - ((x.natAbs % d : Nat) : Int)) + (-((x.natAbs / d : Nat) : Int) + -1) * (d : Int) := by
  have : ((d * (x.natAbs / d) + x.natAbs % d : Nat) : Int) = (x.natAbs : Int) := by rw [h1]
  rw [Int.natCast_add, Int.natCast_mul] at this;rw [Int.add_mul, Int.neg_mul, Int.mul_comm ((x.natAbs / d : Nat) : Int)]; omega
 generalize x.natAbs / d = q at *;generalize x.natAbs % d = r at *;clear h1
 refine ⟨?_, ?_⟩
 ·conv => lhs; rw [hx]
  rw [Int.add_mul_ediv_right _ _ (by omega), Int.ediv_eq_zero_of_lt (by omega) (by omega)];omega
 ·conv => lhs; rw [hx]
  rw [Int.add_mul_emod_self_right, Int.emod_eq_of_lt (by omega) (by omega)]
end
end Go.Proofs.YtpmnjojednbnpaaGreatDoor
