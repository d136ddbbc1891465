import Derived.Deep.DeepCutAuto
import Derived.Test.YtahdmomadbbhoaaMk16
import Derived.Test.YtahdmomadbbhoaaMk12
import Derived.Deep.CutBlock
import Derived.Deep.CutRange
import Derived.Deep.RegionHeld3
section
namespace Go.Proofs.Ytahdmomadbbhoaa
open Go.ChangeShapes Go.WideShapes Go.ChangeAt Go.RowKit
set_option linter.unusedVariables false
set_option linter.unusedSimpArgs false

theorem mul_sign {s t : Bool} {x y : Int} {p q v : Nat} (hx : x = if s = true then -(p : Int) else (p : Int)) (hy : y = if t = true then -(q : Int) else (q : Int)) (hv : v = p * q) : x * y = if (s != t) = true then -(v : Int) else (v : Int) := by
  subst hx; subst hy; subst hv
  cases s <;> cases t <;> simp [Int.neg_mul, Int.mul_neg]
theorem bin_cons0 {R : List Nat} (h : Bin R) : Bin (0 :: R) := fun b hb => by
  rcases List.mem_cons.1 hb with rfl | h'
  · omega
  · exact h b h'
theorem len_mul {w w1 w2 : World} {sx sy s : Bool} {A B C : Option Addr} {na nb n ca cb c : Nat} {x y : Int} (hx : BigAt w sx A na ca x) (hy : BigAt w1 sy B nb cb y) (hz : BigAt w2 s C n c (x * y)) : n ≤ na + nb := by
  have h1 := hx.len.1 (Nat.le_refl na)
  have h2 := hy.len.1 (Nat.le_refl nb)
  rw [hz.len, Int.natAbs_mul, Nat.pow_add]
  exact Nat.mul_lt_mul'' h1 h2
set_option maxRecDepth 100000 in
set_option maxHeartbeats 8000000 in
theorem bmul_any (x y : Int) (sx sy : Bool) (A B : Option Addr) (na ca nb cb : Nat) (w : World) (la : na ≤ 10000) (lb : nb ≤ 10000) (hx : BigAt w sx A na ca x) (hy : BigAt w sy B nb cb y) :
    Calls Try.prog 80 #[.agg #[.bool sx, .slice A na ca], .agg #[.bool sy, .slice B nb cb]] w fun e w' => bigR w w' e (x * y) ∧ Below w.heap.size w w' := by
  obtain ⟨a, h1, h2, h3, h4, h5, h6, h7⟩ := hx.ex
  obtain ⟨b, k1, k2, k3, k4, k5, k6, k7⟩ := hy.ex
  subst h1; subst k1
  clear hx hy h6 k6
  have H7 := Lib.hid h7
  have K7 := Lib.hid k7
  clear h7 k7
  have P1 : BB (((w.alloc (.cells #[.bool sx, .slice A a.length ca] 48)).alloc (.cells #[.bool sy, .slice B b.length cb] 48)).alloc (.cells #[.bool false, .slice none 0 0] 48)) w.heap.size sx A a.length ca := ((BB.new _ _ _ _ _ _).alloc _).alloc _
  have P2 : BB (((w.alloc (.cells #[.bool sx, .slice A a.length ca] 48)).alloc (.cells #[.bool sy, .slice B b.length cb] 48)).alloc (.cells #[.bool false, .slice none 0 0] 48)) (w.heap.size + 1) sy B b.length cb := by
    have := (BB.new (w.alloc (.cells #[.bool sx, .slice A a.length ca] 48)) sy B b.length cb 48).alloc (.cells #[.bool false, .slice none 0 0] 48)
    rwa [World.size_alloc] at this
  have P3 : BB (((w.alloc (.cells #[.bool sx, .slice A a.length ca] 48)).alloc (.cells #[.bool sy, .slice B b.length cb] 48)).alloc (.cells #[.bool false, .slice none 0 0] 48)) (w.heap.size + 1 + 1) false none 0 0 := by
    have := BB.new ((w.alloc (.cells #[.bool sx, .slice A a.length ca] 48)).alloc (.cells #[.bool sy, .slice B b.length cb] 48)) false none 0 0 48
    rwa [World.size_alloc, World.size_alloc] at this
  have hB0 : Below w.heap.size w (((w.alloc (.cells #[.bool sx, .slice A a.length ca] 48)).alloc (.cells #[.bool sy, .slice B b.length cb] 48)).alloc (.cells #[.bool false, .slice none 0 0] 48)) := since_alloc (since_alloc (since_alloc (Below.refl _ w) _) _) _
  have S1 := h4.below hB0
  have S2 := k4.below hB0
  have hcs := @cell_set
  have hlt1 := P3.1
  go_enter Try.func80, Try.ntmps80
  go_upto_region 2 with fail
  generalize (((w.alloc (.cells #[.bool sx, .slice A a.length ca] 48)).alloc (.cells #[.bool sy, .slice B b.length cb] 48)).alloc (.cells #[.bool false, .slice none 0 0] 48)) = W0 at *
  obtain ⟨p10, p11, p12, p13, p14⟩ := _root_.id P1
  go_wp2_with (first
    | (at_builtin; refine wpList_app rfl (.tmp 9) (.tmp 11) rfl EU rfl rfl (own_nil W0.heap.size _ _) (m := a.length) (news := by8 a) (by rw [by8_length, Nat.mul_one]) S1 (by8_one _) (by unfold maxLen; omega) (by omega) (Nat.le_refl _) ?_; intro A2 c2 w2 hown2 hg2 hb2)
    | fail)
  have R2 : Sl w2 A2 (by8 a) := by simpa using Sl.of_own hown2
  clear hown2 hg2 p10 p11 p12 p13 p14
  go_loopw [5, 6, 7] (fun vs vr i wr => ∃ (k : Nat) (A5 : Option Addr) (c5 : Nat) (S : List Nat) (A6 : Option Addr) (c6 : Nat) (R : List Nat), i = .int .i64 k ∧ vs = .slice A5 S.length c5 ∧ vr = .slice A6 R.length c6 ∧ k ≤ b.length ∧ BRow W0.heap.size wr A5 c5 S ∧ Sl wr A6 (by8 R) ∧ Bin R ∧ R.length = a.length + k ∧ S.length ≤ a.length + k ∧ bval R = 2 ^ k * bval a ∧ bval S = bval a * bval (b.take k) ∧ Below W0.heap.size W0 wr) (fun _ _ i _ => b.length - (intOf i).toNat)
  case atStart => exact ⟨0, none, 0, [], A2, c2, a, rfl, rfl, by simp, by omega, ⟨⟨Nat.le_refl _, by decide⟩, Sl.nil, Bin.nil, fun b o h => by cases h⟩, R2, h5.1, rfl, by simp, by simp, by simp [bval], hb2⟩
  case round =>
    obtain ⟨k, A5, c5, S, A6, c6, R, rfl, rfl, rfl, hk, hS, hR, hRb, hRl, hSl, hRv, hSv, hB⟩ := hrel
    obtain ⟨q0, q1, q2, q3, q4⟩ := P2.below hB
    have HRL := Lib.hid hRl
    have HRV := Lib.hid hRv
    have HSV := Lib.hid hSv
    have hRle : R.length ≤ 20000 := by omega
    have hSle : S.length ≤ 20000 := by omega
    clear hRl hRv hSv
    by_cases hlt : k < b.length
    · obtain ⟨bb, o, rfl, hz⟩ := (S2.below hB).byte hlt
      have hbr := World.block_lt_of_cell? _ _ hz
      have hbit := k5.1.at_ hlt
      have HT := Lib.hid (bval_take b k hlt)
      have hR2 : bval (0 :: R) = 2 ^ (k + 1) * bval a := by
        have := HRV.out
        simp only [bval, Nat.zero_add, this, Nat.pow_succ, Nat.mul_assoc, Nat.mul_left_comm, Nat.mul_comm]
      have HR2 := Lib.hid hR2
      clear hR2
      generalize b[k] = bt at *
      rcases (show bt = 0 ∨ bt = 1 by omega) with rfl | rfl
      · go_wp2_with (first
          | (at_builtin; refine wpList_app rfl (.tmp 29) (.tmp 30) rfl EU rfl rfl (own_nil wr.heap.size _ _) (m := 1) (news := by8 [0]) rfl (Sl.new_ _ _ _) (by8_one _) (by decide) (by decide) (by simp) ?_; intro A8 c8 w8 hown8 hg8 hb8; have hb8' : Below wr.heap.size wr w8 := (since_alloc (Below.refl _ _) _).trans hb8; have hr8 := hR.below hb8'; have hz8 := hb8'.size)
          | (at_builtin; refine wpList_app rfl (.tmp 32) (.tmp 33) rfl EU rfl rfl hown8 (m := R.length) (news := by8 R) (by rw [by8_length, Nat.mul_one]) hr8 (by8_one _) (by unfold maxLen; omega) (by omega) hz8 ?_; intro A9 c9 w9 hown9 hg9 hb9; have hb9' : Below wr.heap.size wr w9 := hb8'.trans hb9)
          | fail)
        have hr9 : Sl w9 A9 (by8 (0 :: R)) := by
          have := Sl.of_own hown9
          simpa [by8] using this
        go_roundw
        case rel =>
          refine ⟨k + 1, A5, c5, S, A9, c9, 0 :: R, by go_num, rfl, by simp [Nat.add_comm], by omega, ⟨hS.1, hS.2.1.below hb9', hS.2.2⟩, hr9, bin_cons0 hRb, by simp [HRL.out]; omega, by omega, HR2.out, ?_, hB.trans (hb9'.mono hB.size)⟩
          rw [HT.out, HSV.out]; simp
        case measure => simp [intOf]; omega
      · go_wp2_with fail
        refine (bplus_any A5 A6 c5 c6 S R _ (by omega) (by omega) hS.2.2.1 hRb hS.2.1 hR).mono ?_
        rintro e w3 ⟨⟨A7, c7, out, rfl, hO, hv7, hl7⟩, hb3⟩
        have HV7 := Lib.hid hv7
        have hol : out.length ≤ a.length + (k + 1) := by have := HRL.out; omega
        have hR3 := hR.below hb3
        have hB3 := hB.trans (hb3.mono hB.size)
        clear hv7 hl7 hb3 q0 q1 q2 q3 q4
        go_wp2_with (first
          | (at_builtin; refine wpList_app rfl (.tmp 29) (.tmp 30) rfl EU rfl rfl (own_nil w3.heap.size _ _) (m := 1) (news := by8 [0]) rfl (Sl.new_ _ _ _) (by8_one _) (by decide) (by decide) (by simp) ?_; intro A8 c8 w8 hown8 hg8 hb8; have hb8' : Below w3.heap.size w3 w8 := (since_alloc (Below.refl _ _) _).trans hb8; have hr8 := hR3.below hb8'; have hz8 := hb8'.size)
          | (at_builtin; refine wpList_app rfl (.tmp 32) (.tmp 33) rfl EU rfl rfl hown8 (m := R.length) (news := by8 R) (by rw [by8_length, Nat.mul_one]) hr8 (by8_one _) (by unfold maxLen; omega) (by omega) hz8 ?_; intro A9 c9 w9 hown9 hg9 hb9; have hb9' : Below w3.heap.size w3 w9 := hb8'.trans hb9)
          | fail)
        have hr9 : Sl w9 A9 (by8 (0 :: R)) := by
          have := Sl.of_own hown9
          simpa [by8] using this
        go_roundw
        case rel =>
          refine ⟨k + 1, A7, c7, out, A9, c9, 0 :: R, by go_num, rfl, by simp [Nat.add_comm], by omega, ⟨hO.1, hO.2.1.below hb9', hO.2.2.1, hO.2.2.2.le hB.size (Nat.le_refl _)⟩, hr9, bin_cons0 hRb, by simp [HRL.out]; omega, hol, HR2.out, ?_, hB3.trans (hb9'.mono hB3.size)⟩
          rw [HV7.out, HT.out, HSV.out, HRV.out, Nat.mul_add, Nat.mul_one, Nat.mul_comm (2 ^ k)]
        case measure => simp [intOf]; omega
    · have hkb : k = b.length := by omega
      have hvS : bval S = bval a * bval b := by rw [HSV.out, hkb, List.take_length]
      have HVS := Lib.hid hvS
      obtain ⟨p10, p11, p12, p13, p14⟩ := P1.below hB
      have P3r := P3.below hB
      have hB1 := hB0.trans (hB.mono hB0.size)
      clear hvS hkb
      have HM := Lib.hid (mul_sign H7.out K7.out HVS.out)
      have hfr := hS.2.2.2
      cases sx <;> cases sy
      all_goals
        go_wp2_with fail
        refine (trim_any _ A5 c5 S (x * y) HM.out _ (by omega) hS.1 hS.2.2.1 hS.2.1).mono ?_
        rintro e w4 ⟨⟨n4, c4, rfl, hn4, hbig⟩, hb4⟩
        obtain ⟨r0, r1, r2, r3, r4⟩ := P3r.below hb4
        have hB4 := since_step hB1 hb4
        clear hb4
        generalize hs2 : decide (x * y < 0) = s2 at *
        clear hs2
        go_wp2
        refine bodyPost_ret (v := .agg #[.bool s2, .slice A5 n4 c4]) ?_ rfl ?_
        · simp [results, Try.results80, go_sem, cell_set, r1, r2]
        · refine ⟨⟨s2, A5, n4, c4, rfl, hfr.le hB0.size hn4, ?_⟩, ?_⟩
          · exact (hbig.far (fun b o hA h0 => by have := hfr b o hA (by omega); simp; omega) _).far (fun b o hA h0 => by have := hfr b o hA (by omega); simp; omega) _
          · repeat' (first | with_reducible exact hB4 | with_reducible refine Below.setCell ?_ ?_ _)
            all_goals first | (simp; done) | (simp; omega)
end Go.Proofs.Ytahdmomadbbhoaa
end
section
namespace Go.Proofs.Ytahdmomadbbhoaa
open Go.ChangeShapes Go.WideShapes Go.ChangeAt Go.RowKit
set_option linter.unusedVariables false
set_option linter.unusedSimpArgs false

theorem T2.set2 {w : World} {g : Nat} {a b : Int} (h : T2 w g a b) (c d : Int) : T2 ((w.setCell ⟨g, 0, none⟩ (.int .i64 c)).setCell ⟨g, 1, none⟩ (.int .u64 d)) g c d := by
  obtain ⟨h0, h1, h2, f1, f2⟩ := h
  refine ⟨by simpa using h0, ?_, ?_, by simpa using f1, by simpa using f2⟩ <;> simp [cell_set, h1, h2]
theorem BB.set2 {w : World} {g : Nat} {s : Bool} {A : Option Addr} {n c : Nat} (h : BB w g s A n c) (s' : Bool) (A' : Option Addr) (n' c' : Nat) : BB ((w.setCell ⟨g, 0, none⟩ (.bool s')).setCell ⟨g, 1, none⟩ (.slice A' n' c')) g s' A' n' c' := by
  obtain ⟨h0, h1, h2, f1, f2⟩ := h
  refine ⟨by simpa using h0, ?_, ?_, by simpa using f1, by simpa using f2⟩ <;> simp [cell_set, h1, h2]
theorem BB.far {w : World} {g : Nat} {s : Bool} {A : Option Addr} {n c : Nat} (h : BB w g s A n c) {p : Addr} (hp : p.block ≠ g) (v : Value) : BB (w.setCell p v) g s A n c := by
  obtain ⟨h0, h1, h2, f1, f2⟩ := h
  have k : ∀ o, (w.setCell p v).cell? ⟨g, o, none⟩ = w.cell? ⟨g, o, none⟩ := fun o => World.cell?_setCell_other w _ _ _ (by rintro rfl; exact hp rfl)
  exact ⟨by simpa using h0, (k 0).trans h1, (k 1).trans h2, by simpa using f1, by simpa using f2⟩
theorem BB.farB {w w' : World} {B g : Nat} {s : Bool} {A : Option Addr} {n c : Nat} (h : BB w g s A n c) (hb : Below B w w') (hg : g < B) : BB w' g s A n c := by
  obtain ⟨h0, h1, h2, f1, f2⟩ := h
  exact ⟨Nat.lt_of_lt_of_le h0 hb.size, (hb.cell (p := ⟨g, 0, none⟩) hg).trans h1, (hb.cell (p := ⟨g, 1, none⟩) hg).trans h2, (hb.frozen (p := ⟨g, 0, none⟩) hg).trans f1, (hb.frozen (p := ⟨g, 1, none⟩) hg).trans f2⟩
theorem BigAt.abs {w : World} {s : Bool} {A : Option Addr} {n c : Nat} {z : Int} (h : BigAt w s A n c z) : BigAt w false A n c (z.natAbs : Int) := by
  obtain ⟨bits, h1, h2, h3, h4, h5, h6, h7⟩ := h.ex
  refine ⟨bits, h1, h2, h3, h4, h5, (fun h => nomatch h), ?_⟩
  rw [h7]
  cases s <;> simp
end Go.Proofs.Ytahdmomadbbhoaa
end
section
namespace Go.Proofs.Ytahdmomadbbhoaa
open Go.ChangeShapes Go.WideShapes Go.ChangeAt Go.RowKit
set_option linter.unusedVariables false
set_option linter.unusedSimpArgs false
theorem bval_dropkR (l : List Nat) (j : Nat) (h : j < l.length) : bval (l.drop j) = l[j] + 2 * bval (l.drop (j + 1)) := by
  rw [List.drop_eq_getElem_cons h]; rfl
theorem cmp_same (z : Int) : cmpZ z z = 0 := by unfold cmpZ; simp
theorem BigAt.l64 {w : World} {s : Bool} {A : Option Addr} {n c : Nat} {z : Int} (h : BigAt w s A n c z) (hz : In64 z) : n ≤ 64 := (h.len (k := 64)).2 (by unfold In64 at hz; simp; omega)
set_option maxRecDepth 100000 in
set_option maxHeartbeats 4000000 in
theorem rint_any (x : Int) (hin : In64 x) (s : Bool) (A : Option Addr) (n c : Nat) (w : World) (hx : BigAt w s A n c x) :
    Calls Try.prog 32 #[.agg #[.bool s, .slice A n c]] w fun e w' => e = .returned (.int .i64 x) ∧ Below w.heap.size w w' := by
  have la := hx.l64 hin
  obtain ⟨a, h1, h2, h3, h4, h5, h6, h7⟩ := hx.ex
  subst h1
  clear hx h6
  have P1 := BB.new w s A a.length c 48
  have hB0 := since_alloc (Below.refl _ w) (.cells #[.bool s, .slice A a.length c] 48)
  have S1 := h4.below hB0
  have H7 := Lib.hid h7
  have HI := Lib.hid hin
  clear h7 hin h4
  go_enter Try.func32, Try.ntmps32
  go_upto_region 1 with fail
  generalize w.alloc (.cells #[.bool s, .slice A a.length c] 48) = W0 at *
  obtain ⟨p0, p1, p2, p3, p4⟩ := _root_.id P1
  go_wp2_with fail
  go_loopw [3, 4] (fun vn vi wr => ∃ (k : Nat) (v : Int), vi = .int .i64 k ∧ vn = .int .i64 v ∧ k ≤ a.length ∧ v = (if s = true then -(bval (a.drop k) : Int) else (bval (a.drop k) : Int)) ∧ Below W0.heap.size W0 wr) (fun _ i _ => (intOf i).toNat)
  case atStart => exact ⟨a.length, 0, rfl, rfl, by omega, by simp [bval], Below.refl _ _⟩
  case round =>
    obtain ⟨k, v, rfl, rfl, hk, hv, hB⟩ := hrel
    obtain ⟨q0, q1, q2, q3, q4⟩ := P1.below hB
    clear p0 p1 p2 p3 p4
    by_cases hk0 : 0 < k
    · obtain ⟨j, hj⟩ : ∃ j, k = j + 1 := ⟨k - 1, by omega⟩
      have hlt : j < a.length := by omega
      obtain ⟨bb, o, rfl, hz⟩ := (S1.below hB).byte hlt
      have hbr := World.block_lt_of_cell? _ _ hz
      have hbit := h5.1.at_ hlt
      have hdr : bval (a.drop j) = a[j] + 2 * bval (a.drop k) := by rw [bval_dropkR a j hlt, ← hj]
      have hle : bval (a.drop j) ≤ bval a := by
        have h8 := bval_drop a j (by omega)
        have h9 : 1 * bval (a.drop j) ≤ 2 ^ j * bval (a.drop j) := Nat.mul_le_mul_right _ (Nat.two_pow_pos j)
        omega
      have hin := HI.out
      have h7 := H7.out
      unfold In64 at hin
      have HJ := Lib.hid hj
      have HDR := Lib.hid hdr
      have f1 : IntKind.i64.wrap ((k : Int) - 1) = (j : Int) := by rw [IntKind.wrap_i64]; omega
      have d1 : decide (0 < (k : Int)) = true := decide_eq_true (by omega)
      have d1' : decide (0 < k) = true := decide_eq_true hk0
      generalize hdj : bval (a.drop j) = dj at *
      generalize hdk : bval (a.drop k) = dk at *
      generalize a[j] = bt at *
      have f2 : IntKind.i64.wrap (bt : Int) = (bt : Int) := by rw [IntKind.wrap_i64]; omega
      cases s with
      | false =>
        simp only [Bool.false_eq_true, if_false] at hv h7
        have f3 : IntKind.i64.wrap (2 * v) = 2 * v := by rw [IntKind.wrap_i64]; omega
        have f4 : IntKind.i64.wrap (2 * v + (bt : Int)) = (dj : Int) := by rw [IntKind.wrap_i64]; omega
        have HDJ := Lib.hid hdj
        clear hdr hle hin h7 hdj hdk hv hj
        go_wp2
        go_roundw
        case rel => exact ⟨j, (dj : Int), rfl, rfl, by omega, by simp [HDJ.out], hB⟩
        case measure => have := HJ.out; simp [intOf]; omega
      | true =>
        simp only [if_true] at hv h7
        have f3 : IntKind.i64.wrap (2 * v) = 2 * v := by rw [IntKind.wrap_i64]; omega
        have f4 : IntKind.i64.wrap (2 * v - (bt : Int)) = -(dj : Int) := by rw [IntKind.wrap_i64]; omega
        have HDJ := Lib.hid hdj
        clear hdr hle hin h7 hdj hdk hv hj
        go_wp2
        go_roundw
        case rel => exact ⟨j, -(dj : Int), rfl, rfl, by omega, by simp [HDJ.out], hB⟩
        case measure => have := HJ.out; simp [intOf]; omega
    · obtain rfl : k = 0 := by omega
      rw [List.drop_zero] at hv
      have hvx : v = x := by rw [hv, H7.out]
      subst hvx
      go_wp2
      go_ret
      exact ⟨rfl, since_step hB0 hB⟩
theorem BB.new1 (w : World) (o : Obj) (s : Bool) (A : Option Addr) (n c : Nat) (t : TypeId) : BB ((w.alloc o).alloc (.cells #[.bool s, .slice A n c] t)) (w.heap.size + 1) s A n c := by
  have := BB.new (w.alloc o) s A n c t
  rwa [World.size_alloc] at this
end Go.Proofs.Ytahdmomadbbhoaa
end
section
namespace Go.Proofs.Ytahdmomadbbhoaa
open Go.ChangeShapes Go.WideShapes Go.ChangeAt Go.RowKit
set_option linter.unusedVariables false
set_option linter.unusedSimpArgs false

theorem BigAt.l128 {w : World} {s : Bool} {A : Option Addr} {n c : Nat} {z : Int} (h : BigAt w s A n c z) (hz : In128 z) : n ≤ 128 := h.len.2 (by
  rw [show (2 : Nat) ^ 128 = 340282366920938463463374607431768211456 from by decide]
  unfold In128 at hz
  omega)
structure BX (B : Nat) (w : World) (g : Nat) (s : Bool) (A : Option Addr) (n c : Nat) (z : Int) : Prop where
  bb : BB w g s A n c
  at_ : BigAt w s A n c z
  fr : Fr B A n
  hg : g < B
section
variable {B : Nat} {w w' : World} {g : Nat} {s : Bool} {A : Option Addr} {n c : Nat} {z : Int}
theorem BX.below (h : BX B w g s A n c z) (hb : Below w.heap.size w w') : BX B w' g s A n c z := ⟨h.bb.below hb, h.at_.below hb, h.fr, h.hg⟩
theorem BX.alloc (h : BX B w g s A n c z) (o : Obj) : BX B (w.alloc o) g s A n c z := h.below ((Below.refl _ _).alloc (Nat.le_refl _) o)
theorem BX.drew (h : BX B w g s A n c z) : BX B w.drew g s A n c z := h.below ⟨rfl, rfl, rfl, Nat.le_refl _, fun _ _ => rfl⟩
theorem BX.set (h : BX B w g s A n c z) {p : Addr} (hp : p.block < B) (hne : p.block ≠ g) (v : Value) : BX B (w.setCell p v) g s A n c z :=
  ⟨h.bb.far hne v, h.at_.far (fun b o hA hn => by have := h.fr b o hA hn; omega) v, h.fr, h.hg⟩
theorem BX.put (h : BX B w g s A n c z) {s' : Bool} {A' : Option Addr} {n' c' : Nat} {z' : Int} (hz : BigAt w s' A' n' c' z') (hf : Fr B A' n') :
    BX B ((w.setCell ⟨g, 0, none⟩ (.bool s')).setCell ⟨g, 1, none⟩ (.slice A' n' c')) g s' A' n' c' z' := by
  have hg := h.hg
  refine ⟨h.bb.set2 s' A' n' c', ?_, hf, hg⟩
  refine BigAt.far (BigAt.far hz ?_ _) ?_ _
  · intro b o hA hn
    have := hf b o hA hn
    show b ≠ g
    omega
  · intro b o hA hn
    have := hf b o hA hn
    show b ≠ g
    omega
theorem BX.pos (h : BX B w g s A n c z) : BX B (w.setCell ⟨g, 0, none⟩ (.bool false)) g false A n c (z.natAbs : Int) := by
  have hg := h.hg
  refine ⟨?_, ?_, h.fr, hg⟩
  · obtain ⟨h0, h1, h2, f1, f2⟩ := h.bb
    refine ⟨by simpa using h0, ?_, ?_, by simpa using f1, by simpa using f2⟩ <;> simp [cell_set, h1, h2]
  · refine BigAt.far h.at_.abs ?_ _
    intro b o hA hn
    have := h.fr b o hA hn
    show b ≠ g
    omega
theorem BX.new (hB : w.heap.size < B) (t : TypeId) : BX B (w.alloc (.cells #[.bool false, .slice none 0 0] t)) w.heap.size false none 0 0 0 :=
  ⟨BB.new w false none 0 0 t, BigAt.zero _, (fun b o h => by cases h), hB⟩
end
end Go.Proofs.Ytahdmomadbbhoaa
end
section
namespace Go.Proofs.Ytahdmomadbbhoaa
open Go.ChangeShapes Go.WideShapes Go.ChangeAt Go.RowKit
set_option linter.unusedVariables false
set_option linter.unusedSimpArgs false

def All64 (l : List Int) : Prop := ∀ x ∈ l, In64 x
end Go.Proofs.Ytahdmomadbbhoaa
end
