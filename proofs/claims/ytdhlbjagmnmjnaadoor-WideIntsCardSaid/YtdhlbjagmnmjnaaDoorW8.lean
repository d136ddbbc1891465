/-
  The document's Int; WideInts: the walk.
-/
import Derived.Test.YtdhlbjagmnmjnaaDoorW5
import Derived.Deep.CutRange
import Derived.Deep.CutBlock
import Derived.Deep.DeepCutAuto
namespace Go.Proofs.YtdhlbjagmnmjnaaDoor
open Go.ChangeShapes Go.WideShapes Go.ChangeAt Go.RowKit
set_option linter.unusedVariables false
set_option linter.unusedSimpArgs false

set_option maxRecDepth 100000 in
set_option maxHeartbeats 4000000 in
theorem rint_any (x : Int) (hin : In64 x) (s : Bool) (A : Option Addr) (n c : Nat) (w : World) (hx : BigAt w s A n c x) :
    Calls Tryd.prog 18 #[.agg #[.bool s, .slice A n c]] w fun e w' => e = .returned (.int .i64 x) ∧ Below w.heap.size w w' := by
  have la := hx.l64 hin
  obtain ⟨a, h1, h2, h3, h4, h5, h6, h7⟩ := hx.ex
  subst h1
  clear hx h6
  have P1 := BB.new w s A a.length c 29
  have hB0 := since_alloc (Below.refl _ w) (.cells #[.bool s, .slice A a.length c] 29)
  have S1 := h4.below hB0
  have H7 := Lib.hid h7
  have HI := Lib.hid hin
  clear h7 hin h4
  go_enter Tryd.func18, Tryd.ntmps18
  go_upto_region 1 with fail
  generalize w.alloc (.cells #[.bool s, .slice A a.length c] 29) = W0 at *
  obtain ⟨p0, p1, p2, p3, p4⟩ := _root_.id P1
  go_wp2_with fail
  go_loopw [3, 4] (fun vn vi wr => ∃ (k : Nat) (v : Int), vi = .int .i64 k ∧ vn = .int .i64 v ∧ k ≤ a.length ∧ v = (if s = true then -(bval (a.drop k) : Int) else (bval (a.drop k) : Int)) ∧ Below W0.heap.size W0 wr) (fun _ i _ => (intOf i).toNat)
  case atStart => exact ⟨a.length, 0, rfl, rfl, by omega, by simp [bval], Below.refl _ _⟩
  case round =>
    obtain ⟨k, v, rfl, rfl, hk, hv, hB⟩ := hrel
    obtain ⟨q0, q1, q2, q3, q4⟩ := P1.below hB
    clear p0 p1 p2 p3 p4
    by_cases hk0 : 0 < k
    · obtain ⟨j, hj⟩ : ∃ j, k = j + 1 := ⟨k - 1, by omega⟩
      have hlt : j < a.length := by omega
      obtain ⟨bb, o, rfl, hz⟩ := (S1.below hB).byte hlt
      have hbr := World.block_lt_of_cell? _ _ hz
      have hbit := h5.1.at_ hlt
      have hdr : bval (a.drop j) = a[j] + 2 * bval (a.drop k) := by rw [bval_dropk a j hlt, ← hj]
      have hle : bval (a.drop j) ≤ bval a := by
        have h8 := bval_drop a j (by omega)
        have h9 : 1 * bval (a.drop j) ≤ 2 ^ j * bval (a.drop j) := Nat.mul_le_mul_right _ (Nat.two_pow_pos j)
        omega
      have hin := HI.out
      have h7 := H7.out
      unfold In64 at hin
      have HJ := Lib.hid hj
      have HDR := Lib.hid hdr
      have f1 : IntKind.i64.wrap ((k : Int) - 1) = (j : Int) := by rw [IntKind.wrap_i64]; omega
      have d1 : decide (0 < (k : Int)) = true := decide_eq_true (by omega)
      have d1' : decide (0 < k) = true := decide_eq_true hk0
      generalize hdj : bval (a.drop j) = dj at *
      generalize hdk : bval (a.drop k) = dk at *
      generalize a[j] = bt at *
      have f2 : IntKind.i64.wrap (bt : Int) = (bt : Int) := by rw [IntKind.wrap_i64]; omega
      cases s with
      | false =>
        simp only [Bool.false_eq_true, if_false] at hv h7
        have f3 : IntKind.i64.wrap (2 * v) = 2 * v := by rw [IntKind.wrap_i64]; omega
        have f4 : IntKind.i64.wrap (2 * v + (bt : Int)) = (dj : Int) := by rw [IntKind.wrap_i64]; omega
        have HDJ := Lib.hid hdj
        clear hdr hle hin h7 hdj hdk hv hj
        go_wp2
        go_roundw
        case rel => exact ⟨j, (dj : Int), rfl, rfl, by omega, by simp [HDJ.out], hB⟩
        case measure => have := HJ.out; simp [intOf]; omega
      | true =>
        simp only [if_true] at hv h7
        have f3 : IntKind.i64.wrap (2 * v) = 2 * v := by rw [IntKind.wrap_i64]; omega
        have f4 : IntKind.i64.wrap (2 * v - (bt : Int)) = -(dj : Int) := by rw [IntKind.wrap_i64]; omega
        have HDJ := Lib.hid hdj
        clear hdr hle hin h7 hdj hdk hv hj
        go_wp2
        go_roundw
        case rel => exact ⟨j, -(dj : Int), rfl, rfl, by omega, by simp [HDJ.out], hB⟩
        case measure => have := HJ.out; simp [intOf]; omega
    · obtain rfl : k = 0 := by omega
      rw [List.drop_zero] at hv
      have hvx : v = x := by rw [hv, H7.out]
      subst hvx
      go_wp2
      go_ret
      exact ⟨rfl, since_step hB0 hB⟩

theorem BB.new1 (w : World) (o : Obj) (s : Bool) (A : Option Addr) (n c : Nat) (t : TypeId) : BB ((w.alloc o).alloc (.cells #[.bool s, .slice A n c] t)) (w.heap.size + 1) s A n c := by
  have := BB.new (w.alloc o) s A n c t
  rwa [World.size_alloc] at this

theorem BB.newS2 (w : World) (p q : Addr) (u v : Value) (s : Bool) (A : Option Addr) (n c : Nat) (t : TypeId) : BB (((w.setCell p u).setCell q v).alloc (.cells #[.bool s, .slice A n c] t)) w.heap.size s A n c := by
  have := BB.new ((w.setCell p u).setCell q v) s A n c t
  simpa using this

set_option maxRecDepth 100000 in
set_option maxHeartbeats 16000000 in
theorem walk_WideInts (a0 : Array Value) (a1 : Array Value) (w : World) (w0 : Rd w (.cat (.int .i64) (.cat (.int .u64) .nil)) a0.toList) (w1 : Rd w (.cat (.int .i64) (.cat (.int .u64) .nil)) a1.toList) :
    Calls Tryd.prog 4 #[.agg a0, .agg a1] w fun e w' => e = .returned (.bool true) ∧ Below w.heap.size w w' := by
  obtain ⟨x, hx, rfl⟩ := rd_wide w0
  obtain ⟨y, hy, rfl⟩ := rd_wide w1
  clear w0 w1
  have Pa := (T2.new w (hiN x) (loN x) 24).alloc (.cells #[.int .i64 (hiN y), .int .u64 (loN y)] 24)
  have Pb : T2 ((w.alloc (.cells #[.int .i64 (hiN x), .int .u64 (loN x)] 24)).alloc (.cells #[.int .i64 (hiN y), .int .u64 (loN y)] 24)) (w.heap.size + 1) (hiN y) (loN y) := by
    have := T2.new (w.alloc (.cells #[.int .i64 (hiN x), .int .u64 (loN x)] 24)) (hiN y) (loN y) 24
    rwa [World.size_alloc] at this
  have hB := since_alloc (since_alloc (Below.refl _ w) (.cells #[.int .i64 (hiN x), .int .u64 (loN x)] 24)) (.cells #[.int .i64 (hiN y), .int .u64 (loN y)] 24)
  have h128 := @BigAt.in128
  have HNX := Lib.hid (fun w s A n c (h : BigAt w s A n c x) => h128 h hx)
  have HNY := Lib.hid (fun w s A n c (h : BigAt w s A n c y) => h128 h hy)
  have HBX := Lib.hid (fun w => big_any x hx w)
  have HBY := Lib.hid (fun w => big_any y hy w)
  have HI := Lib.hid (fun w => int_any x hx w)
  have HCW := Lib.hid (fun w => wcmp_any x y hx hy w)
  have HSG := Lib.hid (fun w => wsign_any x hx w)
  have hcs := @cell_set
  clear h128 hx hy
  go_enter Tryd.func4, Tryd.ntmps4
  go_upto_region 1 with fail
  have hW0 : w.heap.size + 2 ≤ ((w.alloc (.cells #[.int .i64 (hiN x), .int .u64 (loN x)] 24)).alloc (.cells #[.int .i64 (hiN y), .int .u64 (loN y)] 24)).heap.size := by simp
  generalize (w.alloc (.cells #[.int .i64 (hiN x), .int .u64 (loN x)] 24)).alloc (.cells #[.int .i64 (hiN y), .int .u64 (loN y)] 24) = W0 at *
  obtain ⟨pa0, pa1, pa2, pa3, pa4⟩ := _root_.id Pa
  obtain ⟨pb0, pb1, pb2, pb3, pb4⟩ := _root_.id Pb
  have tk1 : True := trivial
  go_cut [5, 6] (fun s5 s6 wx => ∃ (g5 g6 : Nat) (s1 : Bool) (A1 : Option Addr) (n1 c1 : Nat) (s2 : Bool) (A2 : Option Addr) (n2 c2 : Nat), s5 = .pointer (some ⟨g5, 0, none⟩) ∧ s6 = .pointer (some ⟨g6, 0, none⟩) ∧
      BB wx g5 s1 A1 n1 c1 ∧ BigAt wx s1 A1 n1 c1 x ∧ BB wx g6 s2 A2 n2 c2 ∧ BigAt wx s2 A2 n2 c2 y ∧ T2 wx w.heap.size (hiN x) (loN x) ∧ T2 wx (w.heap.size + 1) (hiN y) (loN y) ∧ Below w.heap.size w wx)
  case first =>
    have sO : ∀ V, Below W0.heap.size W0 V → (Below W0.heap.size W0 V ∧ V.cell? ⟨w.heap.size, 0, none⟩ = some (.int .i64 (hiN x)) ∧ V.cell? ⟨w.heap.size, 1, none⟩ = some (.int .u64 (loN x)) ∧ V.cell? ⟨w.heap.size + 1, 0, none⟩ = some (.int .i64 (hiN y)) ∧ V.cell? ⟨w.heap.size + 1, 1, none⟩ = some (.int .u64 (loN y))) := fun V h => ⟨h, (Pa.below h).2.1, (Pa.below h).2.2.1, (Pb.below h).2.1, (Pb.below h).2.2.1⟩
    have SO := Lib.hid sO
    have hbD : Below W0.heap.size W0 W0.drew := (Below.refl _ _).drew
    clear sO pa0 pa1 pa2 pa3 pa4 pb0 pb1 pb2 pb3 pb4
    go_region_held3 (fun V => Below W0.heap.size W0 V ∧ V.cell? ⟨w.heap.size, 0, none⟩ = some (.int .i64 (hiN x)) ∧ V.cell? ⟨w.heap.size, 1, none⟩ = some (.int .u64 (loN x)) ∧ V.cell? ⟨w.heap.size + 1, 0, none⟩ = some (.int .i64 (hiN y)) ∧ V.cell? ⟨w.heap.size + 1, 1, none⟩ = some (.int .u64 (loN y)))
      (first
        | exact SO.out _ (by with_reducible assumption)
        | exact SO.out _ (since_alloc (by with_reducible assumption) _)
        | exact SO.out _ (since_alloc (since_alloc (by with_reducible assumption) _) _)
        | exact SO.out _ (Below.setCell (Below.setCell (by with_reducible assumption) (by first | (simp; done) | (simp; omega)) _) (by first | (simp; done) | (simp; omega)) _)
        | exact SO.out _ (since_alloc (Below.setCell (Below.setCell (by with_reducible assumption) (by first | (simp; done) | (simp; omega)) _) (by first | (simp; done) | (simp; omega)) _) _)
        | exact SO.out _ (since_alloc (since_alloc (Below.setCell (Below.setCell (by with_reducible assumption) (by first | (simp; done) | (simp; omega)) _) (by first | (simp; done) | (simp; omega)) _) _) _)
        | exact SO.out _ (Below.setCell (Below.setCell (Below.setCell (Below.setCell (by with_reducible assumption) (by first | (simp; done) | (simp; omega)) _) (by first | (simp; done) | (simp; omega)) _) (by first | (simp; done) | (simp; omega)) _) (by first | (simp; done) | (simp; omega)) _)
        | exact SO.out _ (since_alloc (Below.setCell (Below.setCell (Below.setCell (Below.setCell (by with_reducible assumption) (by first | (simp; done) | (simp; omega)) _) (by first | (simp; done) | (simp; omega)) _) (by first | (simp; done) | (simp; omega)) _) (by first | (simp; done) | (simp; omega)) _) _)
        | exact SO.out _ (since_alloc (since_alloc (Below.setCell (Below.setCell (Below.setCell (Below.setCell (by with_reducible assumption) (by first | (simp; done) | (simp; omega)) _) (by first | (simp; done) | (simp; omega)) _) (by first | (simp; done) | (simp; omega)) _) (by first | (simp; done) | (simp; omega)) _) _) _)
        | exact SO.out _ (Below.refl _ _).drew)
      (first
        | (go_at_call 11; clear tk1; go_split_ands; refine (HBX.out _).mono ?_; rintro e v1 ⟨⟨s1, A1, n1, c1, rfl, hf1, X1⟩, hb1⟩; have l1 : n1 ≤ 128 := HNX.out _ _ _ _ _ X1; have hbW1 : Below W0.heap.size W0 v1 := since_step (by assumption) hb1; have L1 : ∀ b o, A1 = some ⟨b, o, none⟩ → 0 < n1 → W0.heap.size ≤ b ∧ b < v1.heap.size := (fun b o hA h0 => ⟨by have := hf1 b o hA h0; (try simp at this); omega, X1.lt b o hA h0⟩); have z1 := hbW1.size; (first | (have q : Below W0.drew.heap.size W0.drew v1 := (by with_reducible exact hb1)) | (have q : Below ((W0.alloc (.cells #[.bool false, .slice none 0 0] 29))).drew.heap.size ((W0.alloc (.cells #[.bool false, .slice none 0 0] 29))).drew v1 := (by with_reducible exact hb1); have E1 : BB v1 W0.heap.size false none 0 0 := (BB.new W0 false none 0 0 29).drew.below q; have M1 : (∀ b o, A1 = some ⟨b, o, none⟩ → 0 < n1 → W0.heap.size + 1 ≤ b) := (fun b o hA h0 => by have := hf1 b o hA h0; (try simp at this); omega); have u1 : ¬ W0.heap.size = v1.heap.size := (by have := E1.1; omega); have u2 : ¬ v1.heap.size = W0.heap.size := (by have := E1.1; omega)) | (have q : Below (((W0.alloc (.cells #[.bool false, .slice none 0 0] 29)).alloc (.cells #[.bool false, .slice none 0 0] 29))).drew.heap.size (((W0.alloc (.cells #[.bool false, .slice none 0 0] 29)).alloc (.cells #[.bool false, .slice none 0 0] 29))).drew v1 := (by with_reducible exact hb1); have E1 : BB v1 W0.heap.size false none 0 0 := ((BB.new W0 false none 0 0 29).alloc _).drew.below q; have E2 : BB v1 (W0.heap.size + 1) false none 0 0 := (BB.new1 W0 (.cells #[.bool false, .slice none 0 0] 29) false none 0 0 29).drew.below q; have u7 := E2.1; have M2 : (∀ b o, A1 = some ⟨b, o, none⟩ → 0 < n1 → W0.heap.size + 2 ≤ b) := (fun b o hA h0 => by have := hf1 b o hA h0; (try simp at this); omega); have u1 : ¬ W0.heap.size = v1.heap.size := (by have := E1.1; omega); have u2 : ¬ v1.heap.size = W0.heap.size := (by have := E1.1; omega))); clear hf1)
        | (go_at_call 11; go_split_ands; refine (HBY.out _).mono ?_; rintro e v2 ⟨⟨s2, A2, n2, c2, rfl, hf2, X2⟩, hb2⟩; have l2 : n2 ≤ 128 := HNY.out _ _ _ _ _ X2; have hbW2 : Below W0.heap.size W0 v2 := since_step (by assumption) hb2; have L2 : ∀ b o, A2 = some ⟨b, o, none⟩ → 0 < n2 → v1.heap.size ≤ b ∧ b < v2.heap.size := (fun b o hA h0 => ⟨by have := hf2 b o hA h0; (try simp at this); omega, X2.lt b o hA h0⟩); have z2 : v1.heap.size ≤ v2.heap.size := (by have := hb2.size; (try simp at this); omega); (first | (have q : Below v1.heap.size v1 v2 := (by with_reducible exact hb2); have X1q := X1.below q; (first | have E1q := E1.below q | skip); (first | have E2q := E2.below q | skip)) | (have q : Below (v1.alloc (.cells #[.bool false, .slice none 0 0] 29)).heap.size (v1.alloc (.cells #[.bool false, .slice none 0 0] 29)) v2 := (by with_reducible exact hb2); have X1q := (X1.alloc _).below q; (first | have E1q := (E1.alloc _).below q | skip); (first | have E2q := (E2.alloc _).below q | skip); have F1 : BB v2 v1.heap.size false none 0 0 := (BB.new v1 false none 0 0 29).below q; have N1 : (∀ b o, A2 = some ⟨b, o, none⟩ → 0 < n2 → v1.heap.size + 1 ≤ b) := (fun b o hA h0 => by have := hf2 b o hA h0; (try simp at this); omega)) | (have q : Below ((v1.alloc (.cells #[.bool false, .slice none 0 0] 29)).alloc (.cells #[.bool false, .slice none 0 0] 29)).heap.size ((v1.alloc (.cells #[.bool false, .slice none 0 0] 29)).alloc (.cells #[.bool false, .slice none 0 0] 29)) v2 := (by with_reducible exact hb2); have X1q := ((X1.alloc _).alloc _).below q; (first | have E1q := ((E1.alloc _).alloc _).below q | skip); (first | have E2q := ((E2.alloc _).alloc _).below q | skip); have F1 : BB v2 v1.heap.size false none 0 0 := ((BB.new v1 false none 0 0 29).alloc _).below q; have F2 : BB v2 (v1.heap.size + 1) false none 0 0 := (BB.new1 v1 (.cells #[.bool false, .slice none 0 0] 29) false none 0 0 29).below q; have N2 : (∀ b o, A2 = some ⟨b, o, none⟩ → 0 < n2 → v1.heap.size + 2 ≤ b) := (fun b o hA h0 => by have := hf2 b o hA h0; (try simp at this); omega))); (first | (have u3 : ¬ W0.heap.size = v2.heap.size := (by have := E1q.1; omega); have u4 : ¬ v2.heap.size = W0.heap.size := (by have := E1q.1; omega)) | skip); (first | (have u5 : ¬ v1.heap.size = v2.heap.size := (by have := F1.1; omega); have u6 : ¬ v2.heap.size = v1.heap.size := (by have := F1.1; omega)) | skip); (first | obtain ⟨e10, e11, e12, e13, e14⟩ := _root_.id E1q | skip); (first | obtain ⟨e20, e21, e22, e23, e24⟩ := _root_.id E2q | skip); (first | obtain ⟨f10, f11, f12, f13, f14⟩ := _root_.id F1 | skip); (first | obtain ⟨f20, f21, f22, f23, f24⟩ := _root_.id F2 | skip); clear hf2))
    all_goals
      go_wp2_with fail
      go_meet
      case rel =>
        refine ⟨_, _, s1, A1, n1, c1, s2, A2, n2, c2, rfl, rfl, ?_, ?_, ?_, ?_, ?_, ?_, ?_⟩
        all_goals
          repeat' (first
            | with_reducible assumption
            | with_reducible exact Pa.below hbW2
            | with_reducible exact Pb.below hbW2
            | with_reducible exact since_step hB hbW2
            | with_reducible exact BB.new _ _ _ _ _ _
            | with_reducible exact BB.new1 _ _ _ _ _ _ _
            | with_reducible exact BB.newS2 _ _ _ _ _ _ _ _ _ _
            | with_reducible refine BB.set2 (s := false) (A := none) (n := 0) (c := 0) ?_ _ _ _ _
            | with_reducible refine BB.far ?_ ?_ _
            | with_reducible refine BB.alloc ?_ _
            | with_reducible refine BigAt.far ?_ ?_ _
            | with_reducible refine BigAt.alloc ?_ _
            | with_reducible refine T2.far ?_ ?_ _
            | with_reducible refine T2.alloc ?_ _
            | with_reducible refine Below.setCell ?_ ?_ _
            | with_reducible refine Below.alloc ?_ ?_ _)
        all_goals
          first
                | (simp; done)
                | (simp; omega)
                | omega
                | (intro b o hA h0; have q1 := L1 b o hA h0; (try have q2 := M1 b o hA h0); (try have q3 := M2 b o hA h0); simp; omega)
                | (intro b o hA h0; have q1 := L2 b o hA h0; (try have q2 := N1 b o hA h0); (try have q3 := N2 b o hA h0); simp; omega)
  case rest =>
    obtain ⟨g5, g6, s1, A1, n1, c1, s2, A2, n2, c2, rfl, rfl, G5, X, G6, Y, Pa, Pb, hB⟩ := hcut
    by_cases h : In64 x
    · have HV := Lib.hid (show fV x = x from if_pos h)
      have HE := Lib.hid (show fE x = 0 from if_pos h)
      have HF := Lib.hid (show decide (inN x 63) = true from decide_eq_true ((inN_63 x).2 h))
      have HRI := Lib.hid (fun w hz => rint_any x h s1 A1 n1 c1 w hz)
      clear h
      obtain ⟨pa0, pa1, pa2, pa3, pa4⟩ := _root_.id Pa
      obtain ⟨t0, t1, t2, t3, t4⟩ := _root_.id G5
      have n1l := HNX.out _ _ _ _ _ X
      have n2l := HNY.out _ _ _ _ _ Y
      go_wp2_with fail
      refine (HI.out _).mono ?_
      rintro e w3 ⟨rfl, hb3⟩
      rw [HV.out, HE.out]
      have Pa := Pa.below hb3
      have Pb := Pb.below hb3
      have G5 := G5.below hb3
      have G6 := G6.below hb3
      have X := X.below hb3
      have Y := Y.below hb3
      have hB := since_step hB hb3
      clear hb3
      obtain ⟨pa0, pa1, pa2, pa3, pa4⟩ := _root_.id Pa
      obtain ⟨t0, t1, t2, t3, t4⟩ := _root_.id G5
      go_wp2_with fail
      refine (bfits_any x s1 A1 n1 c1 _ (by omega) X).mono ?_
      rintro e w4 ⟨rfl, hb4⟩
      rw [HF.out]
      have Pa := Pa.below hb4
      have Pb := Pb.below hb4
      have G5 := G5.below hb4
      have G6 := G6.below hb4
      have X := X.below hb4
      have Y := Y.below hb4
      have hB := since_step hB hb4
      clear hb4
      obtain ⟨pa0, pa1, pa2, pa3, pa4⟩ := _root_.id Pa
      obtain ⟨t0, t1, t2, t3, t4⟩ := _root_.id G5
      go_wp2_with fail
      refine (HRI.out _ X).mono ?_
      rintro e w5 ⟨rfl, hb5⟩
      have Pa := Pa.below hb5
      have Pb := Pb.below hb5
      have G5 := G5.below hb5
      have G6 := G6.below hb5
      have X := X.below hb5
      have Y := Y.below hb5
      have hB := since_step hB hb5
      clear hb5
      obtain ⟨pa0, pa1, pa2, pa3, pa4⟩ := _root_.id Pa
      obtain ⟨t0, t1, t2, t3, t4⟩ := _root_.id G5
      go_upto_region 5 with fail
      have tk2 : True := trivial
      have sO : ∀ W, Below w5.heap.size w5 W → (Below w5.heap.size w5 W ∧ W.cell? ⟨w.heap.size, 0, none⟩ = some (.int .i64 (hiN x)) ∧ W.cell? ⟨w.heap.size, 1, none⟩ = some (.int .u64 (loN x)) ∧ W.cell? ⟨w.heap.size + 1, 0, none⟩ = some (.int .i64 (hiN y)) ∧ W.cell? ⟨w.heap.size + 1, 1, none⟩ = some (.int .u64 (loN y)) ∧ W.cell? ⟨g5, 0, none⟩ = some (.bool s1) ∧ W.cell? ⟨g5, 1, none⟩ = some (.slice A1 n1 c1) ∧ W.cell? ⟨g6, 0, none⟩ = some (.bool s2) ∧ W.cell? ⟨g6, 1, none⟩ = some (.slice A2 n2 c2)) := fun W h => ⟨h, (Pa.below h).2.1, (Pa.below h).2.2.1, (Pb.below h).2.1, (Pb.below h).2.2.1, (G5.below h).2.1, (G5.below h).2.2.1, (G6.below h).2.1, (G6.below h).2.2.1⟩
      have SO := Lib.hid sO
      have XO := Lib.hid (fun W (h : Below w5.heap.size w5 W) => X.below h)
      have YO := Lib.hid (fun W (h : Below w5.heap.size w5 W) => Y.below h)
      clear sO X Y G5 G6 Pa Pb pa0 pa1 pa2 pa3 pa4 t0 t1 t2 t3 t4
      go_region_held3 (fun W => Below w5.heap.size w5 W ∧ W.cell? ⟨w.heap.size, 0, none⟩ = some (.int .i64 (hiN x)) ∧ W.cell? ⟨w.heap.size, 1, none⟩ = some (.int .u64 (loN x)) ∧ W.cell? ⟨w.heap.size + 1, 0, none⟩ = some (.int .i64 (hiN y)) ∧ W.cell? ⟨w.heap.size + 1, 1, none⟩ = some (.int .u64 (loN y)) ∧ W.cell? ⟨g5, 0, none⟩ = some (.bool s1) ∧ W.cell? ⟨g5, 1, none⟩ = some (.slice A1 n1 c1) ∧ W.cell? ⟨g6, 0, none⟩ = some (.bool s2) ∧ W.cell? ⟨g6, 1, none⟩ = some (.slice A2 n2 c2))
        (first | exact SO.out _ (by assumption) | exact SO.out _ (Below.refl _ _).drew | assumption)
        (first
          | (go_at_call 19; go_split_ands; refine (HCW.out _).mono ?_; rintro e w6 ⟨rfl, hb6⟩; have hbW6 := since_step (by assumption) hb6)
          | (go_at_call 10; clear tk2; go_split_ands; refine (bcmp_any x y s1 s2 A1 A2 n1 c1 n2 c2 _ (by omega) (by omega) (XO.out _ (by assumption)) (YO.out _ (by assumption))).mono ?_; rintro e w7 ⟨rfl, hb7⟩; have hbW7 := since_step (by assumption) hb7)
          | (go_at_call 20; go_split_ands; refine (HSG.out _).mono ?_; rintro e w8 ⟨rfl, hb8⟩; have hbW8 := since_step (by assumption) hb8)
          | (go_at_call 10; go_split_ands; refine (bcmp_any x 0 s1 false A1 none n1 c1 0 0 _ (by omega) (by omega) (XO.out _ (by assumption)) (BigAt.zero _)).mono ?_; rintro e w9 ⟨rfl, hb9⟩; have hbW9 := since_step (by assumption) hb9)
          | (go_at_call 15; go_split_ands; refine (lives01_any _).mono ?_; rintro e w10 ⟨rfl, hb10⟩; have hbW10 := since_step (by assumption) hb10))
      all_goals
        go_wp2
        go_ret
        go_split_ands
        exact ⟨rfl, since_step hB (by assumption)⟩
    · have HV := Lib.hid (show fV x = 0 from if_neg h)
      have HE := Lib.hid (show fE x = 7 from if_neg h)
      have HF := Lib.hid (show decide (inN x 63) = false from decide_eq_false (fun g => h ((inN_63 x).1 g)))
      clear h
      obtain ⟨pa0, pa1, pa2, pa3, pa4⟩ := _root_.id Pa
      obtain ⟨t0, t1, t2, t3, t4⟩ := _root_.id G5
      have n1l := HNX.out _ _ _ _ _ X
      have n2l := HNY.out _ _ _ _ _ Y
      go_wp2_with fail
      refine (HI.out _).mono ?_
      rintro e w3 ⟨rfl, hb3⟩
      rw [HV.out, HE.out]
      have Pa := Pa.below hb3
      have Pb := Pb.below hb3
      have G5 := G5.below hb3
      have G6 := G6.below hb3
      have X := X.below hb3
      have Y := Y.below hb3
      have hB := since_step hB hb3
      clear hb3
      obtain ⟨pa0, pa1, pa2, pa3, pa4⟩ := _root_.id Pa
      obtain ⟨t0, t1, t2, t3, t4⟩ := _root_.id G5
      go_wp2_with fail
      refine (bfits_any x s1 A1 n1 c1 _ (by omega) X).mono ?_
      rintro e w5 ⟨rfl, hb5⟩
      rw [HF.out]
      have Pa := Pa.below hb5
      have Pb := Pb.below hb5
      have G5 := G5.below hb5
      have G6 := G6.below hb5
      have X := X.below hb5
      have Y := Y.below hb5
      have hB := since_step hB hb5
      clear hb5
      obtain ⟨pa0, pa1, pa2, pa3, pa4⟩ := _root_.id Pa
      obtain ⟨t0, t1, t2, t3, t4⟩ := _root_.id G5
      go_upto_region 5 with fail
      have tk2 : True := trivial
      have sO : ∀ W, Below w5.heap.size w5 W → (Below w5.heap.size w5 W ∧ W.cell? ⟨w.heap.size, 0, none⟩ = some (.int .i64 (hiN x)) ∧ W.cell? ⟨w.heap.size, 1, none⟩ = some (.int .u64 (loN x)) ∧ W.cell? ⟨w.heap.size + 1, 0, none⟩ = some (.int .i64 (hiN y)) ∧ W.cell? ⟨w.heap.size + 1, 1, none⟩ = some (.int .u64 (loN y)) ∧ W.cell? ⟨g5, 0, none⟩ = some (.bool s1) ∧ W.cell? ⟨g5, 1, none⟩ = some (.slice A1 n1 c1) ∧ W.cell? ⟨g6, 0, none⟩ = some (.bool s2) ∧ W.cell? ⟨g6, 1, none⟩ = some (.slice A2 n2 c2)) := fun W h => ⟨h, (Pa.below h).2.1, (Pa.below h).2.2.1, (Pb.below h).2.1, (Pb.below h).2.2.1, (G5.below h).2.1, (G5.below h).2.2.1, (G6.below h).2.1, (G6.below h).2.2.1⟩
      have SO := Lib.hid sO
      have XO := Lib.hid (fun W (h : Below w5.heap.size w5 W) => X.below h)
      have YO := Lib.hid (fun W (h : Below w5.heap.size w5 W) => Y.below h)
      clear sO X Y G5 G6 Pa Pb pa0 pa1 pa2 pa3 pa4 t0 t1 t2 t3 t4
      go_region_held3 (fun W => Below w5.heap.size w5 W ∧ W.cell? ⟨w.heap.size, 0, none⟩ = some (.int .i64 (hiN x)) ∧ W.cell? ⟨w.heap.size, 1, none⟩ = some (.int .u64 (loN x)) ∧ W.cell? ⟨w.heap.size + 1, 0, none⟩ = some (.int .i64 (hiN y)) ∧ W.cell? ⟨w.heap.size + 1, 1, none⟩ = some (.int .u64 (loN y)) ∧ W.cell? ⟨g5, 0, none⟩ = some (.bool s1) ∧ W.cell? ⟨g5, 1, none⟩ = some (.slice A1 n1 c1) ∧ W.cell? ⟨g6, 0, none⟩ = some (.bool s2) ∧ W.cell? ⟨g6, 1, none⟩ = some (.slice A2 n2 c2))
        (first | exact SO.out _ (by assumption) | exact SO.out _ (Below.refl _ _).drew | assumption)
        (first
          | (go_at_call 19; go_split_ands; refine (HCW.out _).mono ?_; rintro e w6 ⟨rfl, hb6⟩; have hbW6 := since_step (by assumption) hb6)
          | (go_at_call 10; clear tk2; go_split_ands; refine (bcmp_any x y s1 s2 A1 A2 n1 c1 n2 c2 _ (by omega) (by omega) (XO.out _ (by assumption)) (YO.out _ (by assumption))).mono ?_; rintro e w7 ⟨rfl, hb7⟩; have hbW7 := since_step (by assumption) hb7)
          | (go_at_call 20; go_split_ands; refine (HSG.out _).mono ?_; rintro e w8 ⟨rfl, hb8⟩; have hbW8 := since_step (by assumption) hb8)
          | (go_at_call 10; go_split_ands; refine (bcmp_any x 0 s1 false A1 none n1 c1 0 0 _ (by omega) (by omega) (XO.out _ (by assumption)) (BigAt.zero _)).mono ?_; rintro e w9 ⟨rfl, hb9⟩; have hbW9 := since_step (by assumption) hb9)
          | (go_at_call 15; go_split_ands; refine (lives01_any _).mono ?_; rintro e w10 ⟨rfl, hb10⟩; have hbW10 := since_step (by assumption) hb10))
      all_goals
        go_wp2
        go_ret
        go_split_ands
        exact ⟨rfl, since_step hB (by assumption)⟩
end Go.Proofs.YtdhlbjagmnmjnaaDoor
