import Derived.Deep.DeepCutAuto
import Derived.Test.YtlbccpiadmcpjaaCv10
import Derived.Test.YtlbccpiadmcpjaaCv06
import Derived.Deep.RegionHeld3
import Derived.Test.YtlbccpiadmcpjaaCv01
import Derived.Test.YtlbccpiadmcpjaaCv03
section
namespace Go.Proofs.Ytlbccpiadmcpjaa
open Go.ChangeShapes Go.WideShapes Go.ChangeAt Go.RowKit
set_option linter.unusedVariables false
set_option linter.unusedSimpArgs false

theorem mul_sign {s t : Bool} {x y : Int} {p q v : Nat} (hx : x = if s = true then -(p : Int) else (p : Int)) (hy : y = if t = true then -(q : Int) else (q : Int)) (hv : v = p * q) : x * y = if (s != t) = true then -(v : Int) else (v : Int) := by
  subst hx; subst hy; subst hv
  cases s <;> cases t <;> simp [Int.neg_mul, Int.mul_neg]
theorem bin_cons0 {R : List Nat} (h : Bin R) : Bin (0 :: R) := fun b hb => by
  rcases List.mem_cons.1 hb with rfl | h'
  · omega
  · exact h b h'
theorem len_mul {w w1 w2 : World} {sx sy s : Bool} {A B C : Option Addr} {na nb n ca cb c : Nat} {x y : Int} (hx : BigAt w sx A na ca x) (hy : BigAt w1 sy B nb cb y) (hz : BigAt w2 s C n c (x * y)) : n ≤ na + nb := by
  have h1 := hx.len.1 (Nat.le_refl na)
  have h2 := hy.len.1 (Nat.le_refl nb)
  rw [hz.len, Int.natAbs_mul, Nat.pow_add]
  exact Nat.mul_lt_mul'' h1 h2
set_option maxRecDepth 100000 in
set_option maxHeartbeats 8000000 in
theorem bmul_any (x y : Int) (sx sy : Bool) (A B : Option Addr) (na ca nb cb : Nat) (w : World) (la : na ≤ 10000) (lb : nb ≤ 10000) (hx : BigAt w sx A na ca x) (hy : BigAt w sy B nb cb y) :
    Calls Try.prog 47 #[.agg #[.bool sx, .slice A na ca], .agg #[.bool sy, .slice B nb cb]] w fun e w' => bigR w w' e (x * y) ∧ Below w.heap.size w w' := by
  obtain ⟨a, h1, h2, h3, h4, h5, h6, h7⟩ := hx.ex
  obtain ⟨b, k1, k2, k3, k4, k5, k6, k7⟩ := hy.ex
  subst h1; subst k1
  clear hx hy h6 k6
  have H7 := Lib.hid h7
  have K7 := Lib.hid k7
  clear h7 k7
  have P1 : BB (((w.alloc (.cells #[.bool sx, .slice A a.length ca] 69)).alloc (.cells #[.bool sy, .slice B b.length cb] 69)).alloc (.cells #[.bool false, .slice none 0 0] 69)) w.heap.size sx A a.length ca := ((BB.new _ _ _ _ _ _).alloc _).alloc _
  have P2 : BB (((w.alloc (.cells #[.bool sx, .slice A a.length ca] 69)).alloc (.cells #[.bool sy, .slice B b.length cb] 69)).alloc (.cells #[.bool false, .slice none 0 0] 69)) (w.heap.size + 1) sy B b.length cb := by
    have := (BB.new (w.alloc (.cells #[.bool sx, .slice A a.length ca] 69)) sy B b.length cb 69).alloc (.cells #[.bool false, .slice none 0 0] 69)
    rwa [World.size_alloc] at this
  have P3 : BB (((w.alloc (.cells #[.bool sx, .slice A a.length ca] 69)).alloc (.cells #[.bool sy, .slice B b.length cb] 69)).alloc (.cells #[.bool false, .slice none 0 0] 69)) (w.heap.size + 1 + 1) false none 0 0 := by
    have := BB.new ((w.alloc (.cells #[.bool sx, .slice A a.length ca] 69)).alloc (.cells #[.bool sy, .slice B b.length cb] 69)) false none 0 0 69
    rwa [World.size_alloc, World.size_alloc] at this
  have hB0 : Below w.heap.size w (((w.alloc (.cells #[.bool sx, .slice A a.length ca] 69)).alloc (.cells #[.bool sy, .slice B b.length cb] 69)).alloc (.cells #[.bool false, .slice none 0 0] 69)) := since_alloc (since_alloc (since_alloc (Below.refl _ w) _) _) _
  have S1 := h4.below hB0
  have S2 := k4.below hB0
  have hcs := @cell_set
  have hlt1 := P3.1
  go_enter Try.func47, Try.ntmps47
  go_upto_region 2 with fail
  generalize (((w.alloc (.cells #[.bool sx, .slice A a.length ca] 69)).alloc (.cells #[.bool sy, .slice B b.length cb] 69)).alloc (.cells #[.bool false, .slice none 0 0] 69)) = W0 at *
  obtain ⟨p10, p11, p12, p13, p14⟩ := _root_.id P1
  go_wp2_with (first
    | (at_builtin; refine wpList_app rfl (.tmp 9) (.tmp 11) rfl EU rfl rfl (own_nil W0.heap.size _ _) (m := a.length) (news := by8 a) (by rw [by8_length, Nat.mul_one]) S1 (by8_one _) (by unfold maxLen; omega) (by omega) (Nat.le_refl _) ?_; intro A2 c2 w2 hown2 hg2 hb2)
    | fail)
  have R2 : Sl w2 A2 (by8 a) := by simpa using Sl.of_own hown2
  clear hown2 hg2 p10 p11 p12 p13 p14
  go_loopw [5, 6, 7] (fun vs vr i wr => ∃ (k : Nat) (A5 : Option Addr) (c5 : Nat) (S : List Nat) (A6 : Option Addr) (c6 : Nat) (R : List Nat), i = .int .i64 k ∧ vs = .slice A5 S.length c5 ∧ vr = .slice A6 R.length c6 ∧ k ≤ b.length ∧ BRow W0.heap.size wr A5 c5 S ∧ Sl wr A6 (by8 R) ∧ Bin R ∧ R.length = a.length + k ∧ S.length ≤ a.length + k ∧ bval R = 2 ^ k * bval a ∧ bval S = bval a * bval (b.take k) ∧ Below W0.heap.size W0 wr) (fun _ _ i _ => b.length - (intOf i).toNat)
  case atStart => exact ⟨0, none, 0, [], A2, c2, a, rfl, rfl, by simp, by omega, ⟨⟨Nat.le_refl _, by decide⟩, Sl.nil, Bin.nil, fun b o h => by cases h⟩, R2, h5.1, rfl, by simp, by simp, by simp [bval], hb2⟩
  case round =>
    obtain ⟨k, A5, c5, S, A6, c6, R, rfl, rfl, rfl, hk, hS, hR, hRb, hRl, hSl, hRv, hSv, hB⟩ := hrel
    obtain ⟨q0, q1, q2, q3, q4⟩ := P2.below hB
    have HRL := Lib.hid hRl
    have HRV := Lib.hid hRv
    have HSV := Lib.hid hSv
    have hRle : R.length ≤ 20000 := by omega
    have hSle : S.length ≤ 20000 := by omega
    clear hRl hRv hSv
    by_cases hlt : k < b.length
    · obtain ⟨bb, o, rfl, hz⟩ := (S2.below hB).byte hlt
      have hbr := World.block_lt_of_cell? _ _ hz
      have hbit := k5.1.at_ hlt
      have HT := Lib.hid (bval_take b k hlt)
      have hR2 : bval (0 :: R) = 2 ^ (k + 1) * bval a := by
        have := HRV.out
        simp only [bval, Nat.zero_add, this, Nat.pow_succ, Nat.mul_assoc, Nat.mul_left_comm, Nat.mul_comm]
      have HR2 := Lib.hid hR2
      clear hR2
      generalize b[k] = bt at *
      rcases (show bt = 0 ∨ bt = 1 by omega) with rfl | rfl
      · go_wp2_with (first
          | (at_builtin; refine wpList_app rfl (.tmp 29) (.tmp 30) rfl EU rfl rfl (own_nil wr.heap.size _ _) (m := 1) (news := by8 [0]) rfl (Sl.new_ _ _ _) (by8_one _) (by decide) (by decide) (by simp) ?_; intro A8 c8 w8 hown8 hg8 hb8; have hb8' : Below wr.heap.size wr w8 := (since_alloc (Below.refl _ _) _).trans hb8; have hr8 := hR.below hb8'; have hz8 := hb8'.size)
          | (at_builtin; refine wpList_app rfl (.tmp 32) (.tmp 33) rfl EU rfl rfl hown8 (m := R.length) (news := by8 R) (by rw [by8_length, Nat.mul_one]) hr8 (by8_one _) (by unfold maxLen; omega) (by omega) hz8 ?_; intro A9 c9 w9 hown9 hg9 hb9; have hb9' : Below wr.heap.size wr w9 := hb8'.trans hb9)
          | fail)
        have hr9 : Sl w9 A9 (by8 (0 :: R)) := by
          have := Sl.of_own hown9
          simpa [by8] using this
        go_roundw
        case rel =>
          refine ⟨k + 1, A5, c5, S, A9, c9, 0 :: R, by go_num, rfl, by simp [Nat.add_comm], by omega, ⟨hS.1, hS.2.1.below hb9', hS.2.2⟩, hr9, bin_cons0 hRb, by simp [HRL.out]; omega, by omega, HR2.out, ?_, hB.trans (hb9'.mono hB.size)⟩
          rw [HT.out, HSV.out]; simp
        case measure => simp [intOf]; omega
      · go_wp2_with fail
        refine (bplus_any A5 A6 c5 c6 S R _ (by omega) (by omega) hS.2.2.1 hRb hS.2.1 hR).mono ?_
        rintro e w3 ⟨⟨A7, c7, out, rfl, hO, hv7, hl7⟩, hb3⟩
        have HV7 := Lib.hid hv7
        have hol : out.length ≤ a.length + (k + 1) := by have := HRL.out; omega
        have hR3 := hR.below hb3
        have hB3 := hB.trans (hb3.mono hB.size)
        clear hv7 hl7 hb3 q0 q1 q2 q3 q4
        go_wp2_with (first
          | (at_builtin; refine wpList_app rfl (.tmp 29) (.tmp 30) rfl EU rfl rfl (own_nil w3.heap.size _ _) (m := 1) (news := by8 [0]) rfl (Sl.new_ _ _ _) (by8_one _) (by decide) (by decide) (by simp) ?_; intro A8 c8 w8 hown8 hg8 hb8; have hb8' : Below w3.heap.size w3 w8 := (since_alloc (Below.refl _ _) _).trans hb8; have hr8 := hR3.below hb8'; have hz8 := hb8'.size)
          | (at_builtin; refine wpList_app rfl (.tmp 32) (.tmp 33) rfl EU rfl rfl hown8 (m := R.length) (news := by8 R) (by rw [by8_length, Nat.mul_one]) hr8 (by8_one _) (by unfold maxLen; omega) (by omega) hz8 ?_; intro A9 c9 w9 hown9 hg9 hb9; have hb9' : Below w3.heap.size w3 w9 := hb8'.trans hb9)
          | fail)
        have hr9 : Sl w9 A9 (by8 (0 :: R)) := by
          have := Sl.of_own hown9
          simpa [by8] using this
        go_roundw
        case rel =>
          refine ⟨k + 1, A7, c7, out, A9, c9, 0 :: R, by go_num, rfl, by simp [Nat.add_comm], by omega, ⟨hO.1, hO.2.1.below hb9', hO.2.2.1, hO.2.2.2.le hB.size (Nat.le_refl _)⟩, hr9, bin_cons0 hRb, by simp [HRL.out]; omega, hol, HR2.out, ?_, hB3.trans (hb9'.mono hB3.size)⟩
          rw [HV7.out, HT.out, HSV.out, HRV.out, Nat.mul_add, Nat.mul_one, Nat.mul_comm (2 ^ k)]
        case measure => simp [intOf]; omega
    · have hkb : k = b.length := by omega
      have hvS : bval S = bval a * bval b := by rw [HSV.out, hkb, List.take_length]
      have HVS := Lib.hid hvS
      obtain ⟨p10, p11, p12, p13, p14⟩ := P1.below hB
      have P3r := P3.below hB
      have hB1 := hB0.trans (hB.mono hB0.size)
      clear hvS hkb
      have HM := Lib.hid (mul_sign H7.out K7.out HVS.out)
      have hfr := hS.2.2.2
      cases sx <;> cases sy
      all_goals
        go_wp2_with fail
        refine (trim_any _ A5 c5 S (x * y) HM.out _ (by omega) hS.1 hS.2.2.1 hS.2.1).mono ?_
        rintro e w4 ⟨⟨n4, c4, rfl, hn4, hbig⟩, hb4⟩
        obtain ⟨r0, r1, r2, r3, r4⟩ := P3r.below hb4
        have hB4 := since_step hB1 hb4
        clear hb4
        generalize hs2 : decide (x * y < 0) = s2 at *
        clear hs2
        go_wp2
        refine bodyPost_ret (v := .agg #[.bool s2, .slice A5 n4 c4]) ?_ rfl ?_
        · simp [results, Try.results47, go_sem, cell_set, r1, r2]
        · refine ⟨⟨s2, A5, n4, c4, rfl, hfr.le hB0.size hn4, ?_⟩, ?_⟩
          · exact (hbig.far (fun b o hA h0 => by have := hfr b o hA (by omega); simp; omega) _).far (fun b o hA h0 => by have := hfr b o hA (by omega); simp; omega) _
          · repeat' (first | with_reducible exact hB4 | with_reducible refine Below.setCell ?_ ?_ _)
            all_goals first | (simp; done) | (simp; omega)
end Go.Proofs.Ytlbccpiadmcpjaa
end
section
namespace Go.Proofs.Ytlbccpiadmcpjaa
open Go.ChangeShapes Go.WideShapes Go.ChangeAt Go.RowKit
set_option linter.unusedVariables false
set_option linter.unusedSimpArgs false

theorem T2.set2 {w : World} {g : Nat} {a b : Int} (h : T2 w g a b) (c d : Int) : T2 ((w.setCell ⟨g, 0, none⟩ (.int .i64 c)).setCell ⟨g, 1, none⟩ (.int .u64 d)) g c d := by
  obtain ⟨h0, h1, h2, f1, f2⟩ := h
  refine ⟨by simpa using h0, ?_, ?_, by simpa using f1, by simpa using f2⟩ <;> simp [cell_set, h1, h2]
theorem BB.set2 {w : World} {g : Nat} {s : Bool} {A : Option Addr} {n c : Nat} (h : BB w g s A n c) (s' : Bool) (A' : Option Addr) (n' c' : Nat) : BB ((w.setCell ⟨g, 0, none⟩ (.bool s')).setCell ⟨g, 1, none⟩ (.slice A' n' c')) g s' A' n' c' := by
  obtain ⟨h0, h1, h2, f1, f2⟩ := h
  refine ⟨by simpa using h0, ?_, ?_, by simpa using f1, by simpa using f2⟩ <;> simp [cell_set, h1, h2]
theorem BB.far {w : World} {g : Nat} {s : Bool} {A : Option Addr} {n c : Nat} (h : BB w g s A n c) {p : Addr} (hp : p.block ≠ g) (v : Value) : BB (w.setCell p v) g s A n c := by
  obtain ⟨h0, h1, h2, f1, f2⟩ := h
  have k : ∀ o, (w.setCell p v).cell? ⟨g, o, none⟩ = w.cell? ⟨g, o, none⟩ := fun o => World.cell?_setCell_other w _ _ _ (by rintro rfl; exact hp rfl)
  exact ⟨by simpa using h0, (k 0).trans h1, (k 1).trans h2, by simpa using f1, by simpa using f2⟩
theorem BigAt.abs {w : World} {s : Bool} {A : Option Addr} {n c : Nat} {z : Int} (h : BigAt w s A n c z) : BigAt w false A n c (z.natAbs : Int) := by
  obtain ⟨bits, h1, h2, h3, h4, h5, h6, h7⟩ := h.ex
  refine ⟨bits, h1, h2, h3, h4, h5, (fun h => nomatch h), ?_⟩
  rw [h7]
  cases s <;> simp
end Go.Proofs.Ytlbccpiadmcpjaa
end
section
namespace Go.Proofs.Ytlbccpiadmcpjaa
open Go.ChangeShapes Go.WideShapes Go.ChangeAt Go.RowKit
set_option linter.unusedVariables false
set_option linter.unusedSimpArgs false

def All64 (l : List Int) : Prop := ∀ x ∈ l, In64 x
theorem sum_bound (l : List Int) (h : All64 l) : -(l.length : Int) * 9223372036854775808 ≤ l.sum ∧ l.sum ≤ (l.length : Int) * 9223372036854775808 := by
  induction l with
  | nil => simp
  | cons a m ih =>
    have h1 := ih (fun x hx => h x (by simp [hx]))
    have h2 := h a (by simp)
    unfold In64 at h2
    simp only [List.length_cons, List.sum_cons]
    omega
theorem sum_in128 (l : List Int) (h : All64 l) (hl : l.length ≤ 1000000) : In128 l.sum := by
  have := sum_bound l h
  unfold In128
  omega
set_option maxHeartbeats 8000000 in
theorem fsum_any (A : Option Addr) (cap : Nat) (l : List Int) (w : World) (hl : l.length ≤ 1000000) (hx : All64 l) (hs : Sl w A (ints .i64 l)) :
    Calls Try.prog 36 #[.slice A l.length cap] w fun e w' => e = .returned (.tuple #[.int .i64 (fV l.sum), .int .i64 (fE l.sum)]) ∧ Below w.heap.size w w' := by
  obtain ⟨z1, z2, z3⟩ := zero_parts
  go_enter Try.func36, Try.ntmps36
  go_wp2
  go_loopw [11] (fun i wr => ∃ k : Nat, k ≤ l.length ∧ i = .int .i64 k ∧ T2 wr w.heap.size (hiN (l.take k).sum) (loN (l.take k).sum) ∧ Below w.heap.size w wr) (fun i _ => l.length - (intOf i).toNat)
  case atStart =>
    refine ⟨0, by omega, rfl, ?_, (Below.refl _ _).alloc (Nat.le_refl _) _⟩
    simp only [List.take_zero, List.sum_nil, z1, z2]
    exact T2.new w 0 0 _
  case round =>
    obtain ⟨k, hk, rfl, ht, hB⟩ := hrel
    by_cases hlt : k < l.length
    · obtain ⟨b, o, rfl, hzw⟩ := hs.int hlt
      have hbw : b < w.heap.size := World.block_lt_of_cell? _ _ hzw
      have hz := (hB.cell (p := ⟨b, o + k, none⟩) hbw).trans hzw
      have hbr : b < wr.heap.size := Nat.lt_of_lt_of_le hbw hB.size
      have hsum : (l.take (k + 1)).sum = (l.take k).sum + l[k] := by rw [take_snoc l k hlt, List.sum_append]; simp
      have h1 : In128 (l.take k).sum := sum_in128 _ (fun x h => hx x (List.mem_of_mem_take h)) (by simp; omega)
      have h2 : In128 (l.take (k + 1)).sum := sum_in128 _ (fun x h => hx x (List.mem_of_mem_take h)) (by simp; omega)
      have hin := hx _ (List.getElem_mem hlt)
      rw [hsum] at h2
      have HS := Lib.hid hsum
      clear hsum
      generalize l[k] = x at *
      generalize (l.take k).sum = y at *
      have HE := Lib.hid (wideE_yes h2)
      obtain ⟨a0, a1, a2, f1, f2⟩ := id ht
      have hcs := @cell_set
      have HTW := Lib.hid ht
      go_upto_region 5 with fail
      go_cut [7, 8] (fun s7 s8 wx => ∃ g : Nat, s7 = .pointer (some ⟨g, 0, none⟩) ∧ s8 = .int .i64 0 ∧ T2 wx g (hiN (y + x)) (loN (y + x)) ∧ T2 wx w.heap.size (hiN y) (loN y) ∧ g ≠ w.heap.size ∧ Below w.heap.size w wx)
      case first =>
        go_region_with (first
          | (go_at_call 59; refine (wof_any x hin _).mono ?_; rintro e w1 ⟨rfl, hb1⟩; have hT1 : T2 w1 w.heap.size (hiN y) (loN y) := (by first | exact ht.drew.below hb1 | exact (ht.drew.alloc _).below hb1); have hB1 : Below w.heap.size w w1 := (by first | exact since_step hB.drew hb1 | exact since_step (since_alloc hB.drew _) hb1); (first | have G1 : T2 w1 wr.heap.size 0 0 := (T2.new wr.drew 0 0 98).below hb1 | skip); have hz1 : wr.heap.size ≤ w1.heap.size := (by have := hb1.size; simp at this; omega); obtain ⟨b0, b1, b2, b3, b4⟩ := id hT1; clear hb1)
          | (go_at_call 58; refine (wadd_any _ 2 [y, x] _ (by simp) (by intro z hz; simp at hz; rcases hz with rfl | rfl; exact h1; exact (of_in _ hin).2.2) (by first | exact Sl.new_ _ _ _ | exact (Sl.new_ _ _ _).alloc _ | exact Sl.new1 _ _ _ _)).mono ?_; rintro e w2 ⟨rfl, hb2⟩; have hT2 : T2 w2 w.heap.size (hiN y) (loN y) := (by first | exact (hT1.alloc _).below hb2 | exact ((hT1.alloc _).alloc _).below hb2); have hB2 : Below w.heap.size w w2 := (by first | exact since_step (since_alloc hB1 _) hb2 | exact since_step (since_alloc (since_alloc hB1 _) _) hb2); (first | have G2 := (G1.alloc _).below hb2 | have G2 := ((T2.new w1 0 0 98).alloc _).below hb2 | (have G2 := (T2.new (w1.alloc (.cells #[.int .i64 (hiN y), .int .u64 (loN y), .int .i64 (hiN x), .int .u64 (loN x)] 98)) 0 0 98).below hb2; rw [World.size_alloc] at G2) | skip); (first | obtain ⟨g0, g1, g2, g3, g4⟩ := _root_.id G2 | skip); rw [show [y, x].sum = y + x from by simp, HE.out]; have hz2 : w1.heap.size < w2.heap.size := (by have := hb2.size; simp at this; omega); clear hb2))
        all_goals
          go_wp2_with fail
          go_meet
          case rel =>
            first
              | exact ⟨_, rfl, rfl, G2.set2 _ _, (hT2.far (by simp; omega) _).far (by simp; omega) _, by simp; omega, by
                  refine Below.setCell (Below.setCell hB2 ?_ _) ?_ _ <;> (simp; omega)⟩
              | exact ⟨_, rfl, rfl, T2.new _ _ _ _, hT2.alloc _, by simp; omega, since_alloc hB2 _⟩
      case rest =>
        obtain ⟨g, rfl, rfl, hG, hT, hne, hBx⟩ := hcut
        obtain ⟨g0, g1, g2, g3, g4⟩ := id hG
        obtain ⟨t0, t1, t2, t3, t4⟩ := id hT
        clear hz ht a0 a1 a2 f1 f2
        go_wp2
        go_roundw
        case rel =>
          refine ⟨k + 1, by omega, by go_num, ?_, ?_⟩
          · rw [HS.out]
            exact hT.set2 _ _
          · refine Below.setCell (Below.setCell hBx ?_ _) ?_ _ <;> simp
        case measure => simp [intOf]; omega
    · obtain rfl : k = l.length := by omega
      rw [List.take_length] at ht
      have h128 := sum_in128 l hx hl
      obtain ⟨a0, a1, a2, f1, f2⟩ := id ht
      go_wp2_with fail
      refine (int_any l.sum h128 _).mono ?_
      rintro e w1 ⟨rfl, hb1⟩
      have hB1 := since_step hB hb1
      go_wp2_with fail
      go_ret2
      exact ⟨rfl, hB1⟩
end Go.Proofs.Ytlbccpiadmcpjaa
end
section
namespace Go.Proofs.Ytlbccpiadmcpjaa
open Go.ChangeShapes Go.WideShapes Go.ChangeAt Go.RowKit
set_option linter.unusedVariables false
set_option linter.unusedSimpArgs false

def LRes (B : Nat) (w' : World) (e : Ending) (R : Int × List Lt) : Prop :=
  ∃ A' c', e = .returned (.tuple #[.slice A' R.2.length c', .int .i64 R.1]) ∧ w'.ownsRow B 74 3 (.slice A' R.2.length c') R.2.length (rc Lt.cells R.2)
theorem LRes.nil (B : Nat) (w' : World) (n : Int) : LRes B w' (.returned (.tuple #[.slice none 0 0, .int .i64 n])) (n, []) := ⟨none, 0, rfl, own_nil _ _ _⟩
end Go.Proofs.Ytlbccpiadmcpjaa
end
